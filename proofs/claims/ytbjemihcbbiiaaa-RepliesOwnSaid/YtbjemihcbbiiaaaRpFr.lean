/- What is kept of clients, as the laws need it: what a client that asks in good order is told, and what behind its requests is kept. No program is named. -/
import Derived.Test.YtbjemihcbbiiaaaRpA
namespace Go.Proofs.Ytbjemihcbbiiaaa.RP
open WM (Msg)
set_option linter.unusedVariables false
theorem keepIf_zero (b l : Int) : keepIf b l WM.zero = WM.zero := by unfold keepIf; split <;> rfl
theorem follow_bl (k : Kp) (m : Msg) : (follow k m).boot = aftB k.boot k.low m ∧ (follow k m).low = aftL k.boot k.low m := by
  unfold follow
  split
  · rename_i h; exact ⟨h.1.symm, h.2.symm⟩
  · exact ⟨rfl, rfl⟩
theorem follow_ans {k : Kp} (h : Ok k) (m : Msg) (j : Nat) {a : Msg} (ha : k.ans[j]? = some a) :
    (follow k m).ans[j]? = some (keepIf (follow k m).boot (follow k m).low a) := by
  by_cases e : aftB k.boot k.low m = k.boot ∧ aftL k.boot k.low m = k.low
  · have hf : follow k m = k := by unfold follow; rw [if_pos e]
    rw [hf, ha]
    rcases h.on j a ha with hz | hz
    · rw [hz, keepIf_zero]
    · unfold keepIf; rw [if_pos hz.1]
  · have hf : follow k m = ⟨aftB k.boot k.low m, aftL k.boot k.low m, k.ans.map (keepIf (aftB k.boot k.low m) (aftL k.boot k.low m))⟩ := by unfold follow; rw [if_neg e]
    rw [hf]
    show (k.ans.map _)[j]? = _
    rw [List.getElem?_map, ha]
    rfl
theorem pick_of {k : Kp} {q : Int} {a : Msg} (h : k.ans[spot q]? = some a) : pick k q = a := by unfold pick; rw [h]; rfl
theorem pick_follow {k : Kp} (h : Ok k) (m : Msg) (q : Int) : pick (follow k m) q = keepIf (follow k m).boot (follow k m).low (pick k q) :=
  pick_of (follow_ans h m (spot q) (pick_at h q))
theorem follow_len {k : Kp} (h : k.ans.length = 8) (m : Msg) : (follow k m).ans.length = 8 := by
  unfold follow
  split
  · exact h
  · show (k.ans.map _).length = 8; rw [List.length_map]; exact h
theorem follow_again (k : Kp) (m : Msg) : follow (follow k m) m = follow k m := by
  have hb := (follow_bl k m).1
  have hl := (follow_bl k m).2
  generalize follow k m = k' at hb hl
  unfold follow
  have h1 : aftB k'.boot k'.low m = k'.boot := by
    rw [hb, hl]; unfold aftB; split <;> (try split) <;> omega
  have h2 : aftL k'.boot k'.low m = k'.low := by
    rw [hb, hl]; unfold aftL aftB
    by_cases c1 : k.boot < m.boot
    · simp [c1]
    · by_cases c2 : m.boot = k.boot
      · simp [c2]
      · simp [c1, c2]
  rw [if_pos ⟨h1, h2⟩]
theorem cl_set_same {s : St} (h : s.length = 8) {i : Int} (h0 : 0 ≤ i ∧ i ≤ 7) (k : Kp) : cl (s.set i.toNat k) i = k := by
  unfold cl
  rw [List.getElem?_set_self (by omega)]
  rfl
theorem cl_set_ne {s : St} {i j : Int} (hij : i.toNat ≠ j.toNat) (k : Kp) : cl (s.set i.toNat k) j = cl s j := by
  unfold cl
  rw [List.getElem?_set_ne hij]
theorem cl_seen {s : St} (h : s.length = 8) {m : Msg} (ha : askOk m = true) : cl (seenSt s m) m.frm = now s m := by
  unfold seenSt
  rw [if_pos ha]
  exact cl_set_same h (askB ha).f _
theorem cl_seen_ne {s : St} {m : Msg} {f : Int} (h0 : 0 ≤ f ∧ f ≤ 7) (hne : m.frm ≠ f) : cl (seenSt s m) f = cl s f := by
  unfold seenSt
  split
  · rename_i ha
    have := (askB ha).f
    exact cl_set_ne (by omega) _
  · rfl
theorem spot_inj {a b : Int} (h : spot a = spot b) (h1 : a < b + 8) (h2 : b < a + 8) : a = b := by unfold spot at h; omega
/-! ### A client in good order -/
def frA (f d b q l : Int) : Msg := ⟨1, f, d, b, q, l, 3, ⟨#[]⟩, 0, 0, q, false, 0, [], 0, 0⟩
def frR (f d b q : Int) : Msg := ⟨2, d, f, b, q, 0, 0, ⟨#[]⟩, 0, 0, 0, false, 63, [], 0, 0⟩
structure Who (f d b : Int) : Prop where
  rf : 0 ≤ f ∧ f ≤ 7
  rd : 0 ≤ d ∧ d ≤ 7
  ne : d ≠ f
  rb : 1 ≤ b ∧ b ≤ 1099511627776
theorem count_of {n : Int} (h : 1 ≤ n ∧ n ≤ 1099511627776) : SM.count n = true := count_iff.2 h
theorem node_of {n : Int} (h : 0 ≤ n ∧ n ≤ 7) : WM.node n = true := by unfold WM.node; simp; omega
theorem frA_ok {f d b q l : Int} (hw : Who f d b) (hq : 1 ≤ q ∧ q ≤ 1099511627776) (hl : 1 ≤ l ∧ l ≤ q) : askOk (frA f d b q l) = true := by
  have h1 := node_of hw.rf
  have h2 := node_of hw.rd
  have h3 := count_of hw.rb
  have h4 := count_of hq
  have h5 : decide (d ≠ f) = true := decide_eq_true hw.ne
  have h6 : decide (1 ≤ l) = true := decide_eq_true hl.1
  have h7 : decide (l ≤ q) = true := decide_eq_true hl.2
  have hu : WM.used (frA f d b q l) = frA f d b q l := rfl
  unfold askOk WM.valid
  rw [hu]
  have hm : WM.may (frA f d b q l) = (WM.node f && (WM.node d && decide (d ≠ f)) && (SM.count b && (SM.count q && (decide (1 ≤ l) && (decide (l ≤ q) && SM.count q))))) := rfl
  rw [hm, h1, h2, h3, h4, h5, h6, h7]
  simp [frA]
theorem frR_ok {f d b q : Int} (hw : Who f d b) (hq : 1 ≤ q ∧ q ≤ 1099511627776) : WM.valid (frR f d b q) = true := by
  have h1 := node_of hw.rf
  have h2 := node_of hw.rd
  have h3 := count_of hw.rb
  have h4 := count_of hq
  have h5 : decide (f ≠ d) = true := decide_eq_true (fun e => hw.ne e.symm)
  have hu : WM.used (frR f d b q) = frR f d b q := rfl
  unfold WM.valid
  rw [hu]
  have hm : WM.may (frR f d b q) = (WM.node d && (WM.node f && decide (f ≠ d)) && (SM.count b && (SM.count q && true))) := rfl
  rw [hm, h1, h2, h3, h4, h5]
  simp
theorem fits_fr (f d b q l : Int) (hv : WM.valid (frR f d b q) = true) : fits (frR f d b q) (frA f d b q l) = true := by
  unfold fits
  rw [hv]
  simp [frR, frA]
structure Hot (k : Kp) (f d b lo nx : Int) : Prop where
  bt : k.boot = b
  lw : k.low ≤ lo
  pk : ∀ q, lo ≤ q → q < nx → pick k q = frR f d b q
  un : ∀ (j : Nat) (a : Msg), k.ans[j]? = some a → a = WM.zero ∨ a.seq < nx
structure Fr (s : St) (f d b lo nx : Int) : Prop where
  ok : Oks s
  lo1 : 1 ≤ lo
  le : lo ≤ nx
  nx8 : nx ≤ lo + 8
  top : nx ≤ 1000
  st : (cl s f = kp0 ∧ lo = 1 ∧ nx = 1) ∨ Hot (cl s f) f d b lo nx
section
variable {s : St} {f d b lo nx q : Int}
theorem Fr.zero : Fr st0 f d b 1 1 := by
  refine ⟨Oks.zero, by omega, by omega, by omega, by omega, .inl ⟨?_, rfl, rfl⟩⟩
  unfold cl st0
  cases e : (List.replicate 8 kp0)[f.toNat]? with
  | none => rfl
  | some k => exact List.eq_of_mem_replicate (List.mem_of_getElem? e)
theorem Fr.other (h : Fr s f d b lo nx) (hf : 0 ≤ f ∧ f ≤ 7) {m : Msg} (hne : m.frm ≠ f) : Fr (seenSt s m) f d b lo nx :=
  ⟨h.ok.seen m, h.lo1, h.le, h.nx8, h.top, by rw [cl_seen_ne hf hne]; exact h.st⟩
theorem Fr.bump (h : Fr s f d b lo nx) (hlt : lo < nx) : Fr s f d b (lo + 1) nx := by
  refine ⟨h.ok, by have := h.lo1; omega, by omega, by have := h.nx8; omega, h.top, ?_⟩
  rcases h.st with ⟨_, h1, h2⟩ | hh
  · omega
  · exact .inr ⟨hh.bt, by have := hh.lw; omega, fun q h1 h2 => hh.pk q (by omega) h2, hh.un⟩
/-- What the client is told, and what is kept then. -/
structure Told (s : St) (f d b lo nx q : Int) : Prop where
  ask : askOk (frA f d b q lo) = true
  fr : Fr (seenSt s (frA f d b q lo)) f d b lo nx
  hot : Hot (cl (seenSt s (frA f d b q lo)) f) f d b lo nx
  low : (cl (seenSt s (frA f d b q lo)) f).low = lo
  old : q < nx → verdict s (frA f d b q lo) = 2 ∧ answer s (frA f d b q lo) = frR f d b q
  new : q = nx → verdict s (frA f d b q lo) = 3 ∧ answer s (frA f d b q lo) = WM.zero
theorem has_fr (h1 : lo ≤ q) (h2 : q < lo + 8) : has b lo (frR f d b q) = true := by unfold has frR; simp; omega
theorem has_fa (h1 : lo ≤ q) (h2 : q < lo + 8) (l : Int) : has b lo (frA f d b q l) = true := by unfold has frA; simp; omega
theorem Fr.told (h : Fr s f d b lo nx) (hw : Who f d b) (hq : lo ≤ q) (hn : q ≤ nx) (h8 : q < lo + 8) : Told s f d b lo nx q := by
  have h1 := h.lo1
  have ht := h.top
  have hnn := h.nx8
  have hle := h.le
  have ha := frA_ok hw (q := q) (l := lo) (by omega) (by omega)
  have hO : Ok (cl s f) := cl_ok h.ok f
  have hbl := follow_bl (cl s f) (frA f d b q lo)
  have hB := hw.rb
  have hboot : (follow (cl s f) (frA f d b q lo)).boot = b := by
    rw [hbl.1]
    rcases h.st with ⟨e, _, _⟩ | hh
    · rw [e]; show (if (0 : Int) < b then b else 0) = b; rw [if_pos (by omega)]
    · unfold aftB; rw [hh.bt]; show (if b < b then b else b) = b; rw [if_neg (by omega)]
  have hlow : (follow (cl s f) (frA f d b q lo)).low = lo := by
    rw [hbl.2]
    rcases h.st with ⟨e, _, _⟩ | hh
    · rw [e]; show (if (0 : Int) < b then lo else _) = lo; rw [if_pos (by omega)]
    · unfold aftL; rw [hh.bt]; show (if b < b then lo else if b = b then max (cl s f).low lo else (cl s f).low) = lo
      rw [if_neg (by omega), if_pos rfl]; have := hh.lw; omega
  have hpf := fun q' => pick_follow hO (frA f d b q lo) q'
  rw [hboot, hlow] at hpf
  have hot : Hot (follow (cl s f) (frA f d b q lo)) f d b lo nx := by
    refine ⟨hboot, by rw [hlow]; omega, fun q' g1 g2 => ?_, fun j a hj => ?_⟩
    · rcases h.st with ⟨e, e1, e2⟩ | hh
      · omega
      · rw [hpf, hh.pk q' g1 g2]; unfold keepIf; rw [if_pos (has_fr g1 (by omega))]
    · have hj8 : j < 8 := by
        have := (List.getElem?_eq_some_iff.1 hj).1
        rwa [follow_len hO.n8] at this
      have hk : (cl s f).ans[j]? = some ((cl s f).ans[j]'(by rw [hO.n8]; exact hj8)) := List.getElem?_eq_getElem _
      generalize (cl s f).ans[j]'(by rw [hO.n8]; exact hj8) = x at hk
      have h2 := follow_ans hO (frA f d b q lo) j hk
      rw [h2] at hj
      injection hj with hj
      rcases h.st with ⟨e, e1, e2⟩ | hh
      · left
        rw [← hj]
        have : x = WM.zero := by rw [e] at hk; exact List.eq_of_mem_replicate (List.mem_of_getElem? hk)
        rw [this, keepIf_zero]
      · rw [← hj]
        unfold keepIf
        split
        · exact hh.un j x hk
        · exact .inl rfl
  have hcl : cl (seenSt s (frA f d b q lo)) f = follow (cl s f) (frA f d b q lo) := cl_seen (m := frA f d b q lo) h.ok.n8 ha
  have hnow : now s (frA f d b q lo) = follow (cl s f) (frA f d b q lo) := rfl
  have hv : verdict s (frA f d b q lo) = (if (pick (follow (cl s f) (frA f d b q lo)) q).seq = q then 2 else 3) := by
    unfold verdict
    rw [if_pos ha, hnow, hboot, hlow, if_pos (has_fa hq h8 lo)]
    rfl
  refine ⟨ha, ⟨h.ok.seen _, h1, hle, hnn, ht, .inr (by rw [hcl]; exact hot)⟩, by rw [hcl]; exact hot, by rw [hcl]; exact hlow, fun hlt => ?_, fun he => ?_⟩
  · have hp := hot.pk q hq hlt
    have h2 : verdict s (frA f d b q lo) = 2 := by rw [hv, hp]; exact if_pos rfl
    refine ⟨h2, ?_⟩
    unfold answer
    rw [if_pos h2, hnow]
    exact hp
  · have hp := hot.un (spot q) _ (pick_at (hO.follow (askB ha)) q)
    have h3 : verdict s (frA f d b q lo) = 3 := by
      rw [hv]
      refine if_neg ?_
      rcases hp with e | e
      · rw [e]; show ¬ (0 : Int) = q; omega
      · omega
    refine ⟨h3, ?_⟩
    unfold answer
    rw [if_neg (by rw [h3]; decide)]
/-- A new request is answered. -/
theorem Fr.keep (h : Fr s f d b lo nx) (hw : Who f d b) (h8 : nx < lo + 8) (ht : nx < 1000) :
    kept s (frA f d b nx lo) (frR f d b nx) = true ∧ Fr (keepSt s (frA f d b nx lo) (frR f d b nx)) f d b lo (nx + 1) := by
  have hle := h.le
  have h1 := h.lo1
  have T := h.told hw hle (Int.le_refl _) h8
  have hv := (T.new rfl).1
  have hf := fits_fr f d b nx lo (frR_ok hw (by omega))
  have hk : kept s (frA f d b nx lo) (frR f d b nx) = true := by unfold kept; rw [hf, hv]; rfl
  refine ⟨hk, ?_⟩
  have hcl : cl (keepSt s (frA f d b nx lo) (frR f d b nx)) f = stored (cl (seenSt s (frA f d b nx lo)) f) nx (frR f d b nx) := by
    unfold keepSt
    rw [if_pos hk, show cl (seenSt s (frA f d b nx lo)) f = now s (frA f d b nx lo) from cl_seen (m := frA f d b nx lo) (s := s) h.ok.n8 T.ask]
    exact cl_set_same (i := f) T.fr.ok.n8 hw.rf _
  have hO : Ok (cl (seenSt s (frA f d b nx lo)) f) := cl_ok T.fr.ok f
  refine ⟨h.ok.keep _ _, h1, by omega, by omega, by omega, .inr ?_⟩
  rw [hcl]
  have hot := T.hot
  generalize cl (seenSt s (frA f d b nx lo)) f = k at hot hO
  refine ⟨hot.bt, hot.lw, fun q g1 g2 => ?_, fun j a hj => ?_⟩
  · by_cases e : q = nx
    · subst e
      refine pick_of ?_
      show (k.ans.set (spot q) _)[spot q]? = _
      rw [List.getElem?_set_self (by rw [hO.n8]; exact spot_lt _)]
    · have hs : spot nx ≠ spot q := fun e' => e (spot_inj e'.symm (by omega) (by omega))
      rw [← hot.pk q g1 (by omega)]
      refine pick_of ?_
      show (k.ans.set (spot nx) _)[spot q]? = _
      rw [List.getElem?_set_ne hs]
      exact pick_at hO q
  · have hj : (k.ans.set (spot nx) (frR f d b nx))[j]? = some a := hj
    by_cases e : spot nx = j
    · subst e
      rw [List.getElem?_set_self (by rw [hO.n8]; exact spot_lt _)] at hj
      cases hj
      exact .inr (by show nx < nx + 1; omega)
    · rw [List.getElem?_set_ne e] at hj
      rcases hot.un j a hj with e | e
      · exact .inl e
      · exact .inr (by omega)
end
/-! ### How many are kept -/
def fill (r n : Nat) : List Bool := (List.range 8).map fun j => decide ((j + 8 - r) % 8 < n)
theorem fill_len (r n : Nat) : (fill r n).length = 8 := by unfold fill; simp
theorem fill_at (r n : Nat) {j : Nat} (h : j < 8) : (fill r n)[j]? = some (decide ((j + 8 - r) % 8 < n)) := by
  unfold fill
  rw [List.getElem?_map, List.getElem?_range h]
  rfl
theorem fill_all : ((List.range 8).all fun r => (List.range 9).all fun n => decide ((fill r n).countP id = n)) = true := by decide
theorem fill_count {r n : Nat} (hr : r < 8) (hn : n ≤ 8) : (fill r n).countP id = n := by
  have := fill_all
  rw [List.all_eq_true] at this
  have := this r (List.mem_range.2 hr)
  rw [List.all_eq_true] at this
  simpa using this n (List.mem_range.2 (by omega))
theorem lenK_hot {k : Kp} {f d b lo nx : Int} (h : Hot k f d b lo nx) (hO : Ok k) (hl : k.low = lo) (h1 : 1 ≤ lo) (hle : lo ≤ nx) (h8 : nx ≤ lo + 8) (hb : 1 ≤ b) : (lenK k : Int) = nx - lo := by
  have hm : k.ans.map (fun a => decide (a.kind = 2)) = fill (spot lo) (nx - lo).toNat := by
    refine List.ext_getElem? fun j => ?_
    by_cases hj8 : j < 8
    rotate_left
    · rw [List.getElem?_eq_none (by rw [List.length_map, hO.n8]; omega), List.getElem?_eq_none (by rw [fill_len]; omega)]
    have hk : k.ans[j]? = some (k.ans[j]'(by rw [hO.n8]; exact hj8)) := List.getElem?_eq_getElem _
    generalize k.ans[j]'(by rw [hO.n8]; exact hj8) = a at hk
    rw [fill_at _ _ hj8, List.getElem?_map, hk]
    refine congrArg some ?_
    refine decide_eq_decide.2 ⟨fun hk2 => ?_, fun hlt => ?_⟩
    · rcases hO.on j a hk with e | ⟨hh, hs, _⟩
      · rw [e] at hk2; exact absurd hk2 (by decide)
      · have hh := has_of hh
        rw [hl] at hh
        rcases h.un j a hk with e | e
        · rw [e] at hk2; exact absurd hk2 (by decide)
        · unfold spot at hs ⊢; omega
    · have hq : spot (lo + ((j + 8 - spot lo) % 8 : Nat)) = j := by unfold spot at hlt ⊢; omega
      have hp := h.pk (lo + ((j + 8 - spot lo) % 8 : Nat)) (by omega) (by omega)
      have := pick_of (q := lo + ((j + 8 - spot lo) % 8 : Nat)) (by rw [hq]; exact hk)
      rw [this] at hp
      rw [hp]
      rfl
  have hc := fill_count (r := spot lo) (n := (nx - lo).toNat) (spot_lt _) (by omega)
  rw [← hm, List.countP_map] at hc
  unfold lenK
  have : (id ∘ fun a : Msg => decide (a.kind = 2)) = fun a : Msg => decide (a.kind = 2) := rfl
  rw [this] at hc
  rw [hc]
  omega
theorem len_hot {s : St} {f d b lo nx : Int} (h : Hot (cl s f) f d b lo nx) (hs : Oks s) (hl : (cl s f).low = lo) (h1 : 1 ≤ lo) (hle : lo ≤ nx) (h8 : nx ≤ lo + 8) (hw : Who f d b) : (len s f : Int) = nx - lo := by
  unfold len
  rw [if_pos (by have := hw.rf; omega)]
  exact lenK_hot h (cl_ok hs f) hl h1 hle h8 hw.rb.1
end Go.Proofs.Ytbjemihcbbiiaaa.RP
