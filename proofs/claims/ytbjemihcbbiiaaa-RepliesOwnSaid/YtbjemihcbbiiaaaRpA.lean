/- Texts that belong together: RpMath, RpMem, RpW1. -/
import Derived.Test.YtbjemihcbbiiaaaWireA
import Derived.Test.YtbjemihcbbiiaaaWireW10
import Derived.Deep.MidRow
namespace Go.Proofs.Ytbjemihcbbiiaaa.RP
open WM (Msg)
set_option linter.unusedVariables false
/-- What is kept of a client: its boot, the low, a message for each of eight places. -/
structure Kp where
  boot : Int
  low : Int
  ans : List Msg
def kp0 : Kp := ⟨0, 0, List.replicate 8 WM.zero⟩
instance instKp : Inhabited Kp := ⟨kp0⟩
def aftB (b l : Int) (m : Msg) : Int := if b < m.boot then m.boot else b
def aftL (b l : Int) (m : Msg) : Int := if b < m.boot then m.low else if m.boot = b then max l m.low else l
def has (b l : Int) (m : Msg) : Bool := decide (m.boot = b) && (decide (l ≤ m.seq) && decide (m.seq < l + 8))
def keepIf (b l : Int) (m : Msg) : Msg := if has b l m then m else WM.zero
def follow (k : Kp) (m : Msg) : Kp :=
  if aftB k.boot k.low m = k.boot ∧ aftL k.boot k.low m = k.low then k
  else ⟨aftB k.boot k.low m, aftL k.boot k.low m, k.ans.map (keepIf (aftB k.boot k.low m) (aftL k.boot k.low m))⟩
def spot (q : Int) : Nat := (q % 8).toNat
def pick (k : Kp) (q : Int) : Msg := (k.ans[spot q]?).getD WM.zero
abbrev St := List Kp
def st0 : St := List.replicate 8 kp0
def askOk (m : Msg) : Bool := decide (m.kind = 1) && WM.valid m
def cl (s : St) (i : Int) : Kp := (s[i.toNat]?).getD kp0
/-- The client behind an Ask, the state behind it. -/
def now (s : St) (m : Msg) : Kp := follow (cl s m.frm) m
def seenSt (s : St) (m : Msg) : St := if askOk m then s.set m.frm.toNat (now s m) else s
def verdict (s : St) (m : Msg) : Int :=
  if askOk m then (if has (now s m).boot (now s m).low m then (if (pick (now s m) m.seq).seq = m.seq then 2 else 3) else 1) else 1
def answer (s : St) (m : Msg) : Msg := if verdict s m = 2 then pick (now s m) m.seq else WM.zero
def fits (a m : Msg) : Bool :=
  decide (a.kind = 2) && (WM.valid a && (decide (a.frm = m.dst) && (decide (a.dst = m.frm) && (decide (a.boot = m.boot) && decide (a.seq = m.seq)))))
def kept (s : St) (m a : Msg) : Bool := decide (verdict s m = 3) && fits a m
def stored (k : Kp) (q : Int) (a : Msg) : Kp := ⟨k.boot, k.low, k.ans.set (spot q) a⟩
def keepSt (s : St) (m a : Msg) : St := if kept s m a then (seenSt s m).set m.frm.toNat (stored (now s m) m.seq a) else seenSt s m
def lenK (k : Kp) : Nat := k.ans.countP fun a => decide (a.kind = 2)
def len (s : St) (i : Int) : Nat := if 0 ≤ i ∧ i < 8 then lenK (cl s i) else 0
/-! ### What holds of them -/
structure Ok (k : Kp) : Prop where
  b0 : 0 ≤ k.boot
  b1 : k.boot ≤ 1099511627776
  l0 : 0 ≤ k.low
  l1 : k.low ≤ 1099511627776
  n8 : k.ans.length = 8
  on : ∀ (j : Nat) (a : Msg), k.ans[j]? = some a → a = WM.zero ∨ (has k.boot k.low a = true ∧ spot a.seq = j ∧ a.kind = 2 ∧ 1 ≤ a.seq ∧ WM.valid a = true)
structure Oks (s : St) : Prop where
  n8 : s.length = 8
  ok : ∀ k ∈ s, Ok k
theorem spot_lt (q : Int) : spot q < 8 := by unfold spot; omega
theorem count_iff {n : Int} : SM.count n = true ↔ 1 ≤ n ∧ n ≤ 1099511627776 := by unfold SM.count; simp
theorem Ok.zero : Ok kp0 := by
  refine ⟨by decide, by decide, by decide, by decide, rfl, fun j a h => .inl ?_⟩
  exact List.eq_of_mem_replicate (List.mem_of_getElem? h)
theorem Oks.zero : Oks st0 := ⟨rfl, fun k h => by rw [List.eq_of_mem_replicate h]; exact Ok.zero⟩
structure AskB (m : Msg) : Prop where
  f : 0 ≤ m.frm ∧ m.frm ≤ 7
  b : 1 ≤ m.boot ∧ m.boot ≤ 1099511627776
  s : 1 ≤ m.seq ∧ m.seq ≤ 1099511627776
  l : 1 ≤ m.low ∧ m.low ≤ m.seq
  k : m.kind = 1
theorem askB {m : Msg} (h : askOk m = true) : AskB m := by
  unfold askOk WM.valid WM.may WM.mayGo WM.mayPart at h
  simp only [Bool.and_eq_true, decide_eq_true_eq] at h
  obtain ⟨hk, ⟨⟨⟨hn, _⟩, hp⟩, _⟩⟩ := h
  rw [if_pos hk] at hp
  unfold WM.mayAsk at hp
  simp only [Bool.and_eq_true, decide_eq_true_eq, count_iff] at hp
  unfold WM.node at hn
  simp only [Bool.and_eq_true, decide_eq_true_eq] at hn
  exact ⟨by omega, by omega, by omega, by omega, hk⟩
theorem has_zero {b l : Int} (h : 1 ≤ b) : has b l WM.zero = false := by
  unfold has
  have : ¬ WM.zero.boot = b := by show ¬ (0 : Int) = b; omega
  simp [this]
theorem Ok.follow {k : Kp} (h : Ok k) {m : Msg} (hm : AskB m) : Ok (follow k m) := by
  unfold RP.follow
  have hb := hm.b; have hl := hm.l; have hs := hm.s
  have := h.b0; have := h.b1; have := h.l0; have := h.l1
  by_cases e : aftB k.boot k.low m = k.boot ∧ aftL k.boot k.low m = k.low
  · rw [if_pos e]; exact h
  · rw [if_neg e]
    refine ⟨by show 0 ≤ aftB k.boot k.low m; unfold aftB; split <;> omega, by show aftB k.boot k.low m ≤ 1099511627776; unfold aftB; split <;> omega, by show 0 ≤ aftL k.boot k.low m; unfold aftL; split <;> (try split) <;> omega, by show aftL k.boot k.low m ≤ 1099511627776; unfold aftL; split <;> (try split) <;> omega, by simp [h.n8], fun j a ha => ?_⟩
    have ha : (k.ans.map (keepIf (aftB k.boot k.low m) (aftL k.boot k.low m)))[j]? = some a := ha
    rw [List.getElem?_map] at ha
    obtain ⟨x, hx, rfl⟩ := Option.map_eq_some_iff.1 ha
    unfold keepIf
    split
    · rename_i hh
      rcases h.on j x hx with e | ⟨_, h2⟩
      · exact .inl e
      · exact .inr ⟨hh, h2⟩
    · exact .inl rfl
theorem cl_ok {s : St} (h : Oks s) (i : Int) : Ok (cl s i) := by
  unfold cl
  cases e : s[i.toNat]? with
  | none => exact Ok.zero
  | some k => exact h.ok k (List.mem_of_getElem? e)
theorem Oks.set {s : St} (h : Oks s) (i : Nat) {k : Kp} (hk : Ok k) : Oks (s.set i k) := ⟨by rw [List.length_set]; exact h.n8, fun x hx => by
  rcases List.mem_or_eq_of_mem_set hx with h1 | h1
  · exact h.ok x h1
  · rw [h1]; exact hk⟩
theorem Oks.seen {s : St} (h : Oks s) (m : Msg) : Oks (seenSt s m) := by
  unfold seenSt
  split
  · rename_i e
    exact h.set _ ((cl_ok h _).follow (askB e))
  · exact h
theorem verdict_ask {s : St} {m : Msg} (h : verdict s m ≠ 1) : askOk m = true := by
  unfold verdict at h
  cases e : askOk m with
  | true => rfl
  | false => rw [e] at h; simp at h
theorem verdict_has {s : St} {m : Msg} (h : verdict s m ≠ 1) : has (now s m).boot (now s m).low m = true := by
  unfold verdict at h
  rw [verdict_ask h] at h
  cases e : has (now s m).boot (now s m).low m with
  | true => rfl
  | false => rw [e] at h; simp at h
theorem has_of {b l : Int} {m : Msg} (h : has b l m = true) : m.boot = b ∧ l ≤ m.seq ∧ m.seq < l + 8 := by
  unfold has at h
  simpa only [Bool.and_eq_true, decide_eq_true_eq] using h
theorem has_eq {b l : Int} {a m : Msg} (h1 : a.boot = m.boot) (h2 : a.seq = m.seq) : has b l a = has b l m := by unfold has; rw [h1, h2]
structure FitsB (a m : Msg) : Prop where
  k : a.kind = 2
  v : WM.valid a = true
  f : a.frm = m.dst
  d : a.dst = m.frm
  b : a.boot = m.boot
  s : a.seq = m.seq
theorem fitsB {a m : Msg} (h : fits a m = true) : FitsB a m := by
  unfold fits at h
  simp only [Bool.and_eq_true, decide_eq_true_eq] at h
  obtain ⟨h1, h2, h3, h4, h5, h6⟩ := h
  exact ⟨h1, h2, h3, h4, h5, h6⟩
theorem Ok.stored {k : Kp} (h : Ok k) {m a : Msg} (hh : has k.boot k.low m = true) (hm : AskB m) (ha : FitsB a m) : Ok (stored k m.seq a) := by
  refine ⟨h.b0, h.b1, h.l0, h.l1, by show (k.ans.set _ _).length = 8; rw [List.length_set]; exact h.n8, fun j x hx => ?_⟩
  have hx : (k.ans.set (spot m.seq) a)[j]? = some x := hx
  by_cases e : spot m.seq = j
  · subst e
    rw [List.getElem?_set_self (by rw [h.n8]; exact spot_lt _)] at hx
    cases hx
    exact .inr ⟨by rw [show (RP.stored k m.seq a).boot = k.boot from rfl, show (RP.stored k m.seq a).low = k.low from rfl, has_eq ha.b ha.s]; exact hh, by rw [ha.s], ha.k, by rw [ha.s]; exact hm.s.1, ha.v⟩
  · rw [List.getElem?_set_ne e] at hx
    exact h.on j x hx
theorem kept_of {s : St} {m a : Msg} (h : kept s m a = true) : verdict s m = 3 ∧ fits a m = true := by
  unfold kept at h
  simpa only [Bool.and_eq_true, decide_eq_true_eq] using h
theorem Oks.keep {s : St} (h : Oks s) (m a : Msg) : Oks (keepSt s m a) := by
  unfold keepSt
  split
  · rename_i e
    obtain ⟨h3, hf⟩ := kept_of e
    have hn : verdict s m ≠ 1 := by rw [h3]; decide
    have hq := askB (verdict_ask hn)
    exact (h.seen m).set _ (((cl_ok h _).follow hq).stored (verdict_has hn) hq (fitsB hf))
  · exact h.seen m
theorem pick_at {k : Kp} (h : Ok k) (q : Int) : k.ans[spot q]? = some (pick k q) := by
  unfold pick
  rw [List.getElem?_eq_getElem (by rw [h.n8]; exact spot_lt q)]
  rfl
theorem cl_at {s : St} (h : Oks s) {i : Int} (h0 : 0 ≤ i ∧ i ≤ 7) : s[i.toNat]? = some (cl s i) := by
  unfold cl
  rw [List.getElem?_eq_getElem (by rw [h.n8]; omega)]
  rfl
end Go.Proofs.Ytbjemihcbbiiaaa.RP
namespace Go.Proofs.Ytbjemihcbbiiaaa
open Go.RowKit
open RP (Kp St)
open WM (Msg)
set_option linter.unusedVariables false
set_option linter.unusedSimpArgs false
set_option maxRecDepth 100000
def slotC (m : Msg) (A : Option Addr) (c : Nat) : List Value := (cellsM m (.slice A m.stamp.length c)).toList
theorem slotC_len (m : Msg) (A : Option Addr) (c : Nat) : (slotC m A c).length = 16 := rfl
theorem slotC_one (m : Msg) (A : Option Addr) (c : Nat) : ∀ v ∈ slotC m A c, v.oneCell' = true := by
  intro v hv
  unfold slotC cellsM at hv
  simp only [List.mem_cons, List.not_mem_nil, or_false] at hv
  rcases hv with h | h | h | h | h | h | h | h | h | h | h | h | h | h | h | h <;> subst h <;> rfl
/-- A message lies in block g from offset o on; the block of its stamp is none below lo and none from hi on. -/
def IntB (w : World) (b : Nat) : Prop := ∃ cs, Whole w b 3 cs
def SlAt (w : World) (g o lo up : Nat) (m : Msg) : Prop := ∃ A c, w.rangeAt g o (slotC m A c) ∧ Fit w A c m ∧ (∀ ad, A = some ad → lo ≤ ad.block ∧ ad.block < up) ∧ ∀ ad, A = some ad → IntB w ad.block
structure KpAt (w : World) (g o lo up : Nat) (k : Kp) : Prop where
  bt : w.cell? ⟨g, o, none⟩ = some (.int .i64 k.boot)
  lw : w.cell? ⟨g, o + 1, none⟩ = some (.int .i64 k.low)
  sl : ∀ (j : Nat) (m : Msg), k.ans[j]? = some m → SlAt w g (o + 2 + j * 16) lo up m
structure RepAt (w : World) (g lo up : Nat) (s : St) : Prop where
  lt : g < lo
  le : lo ≤ up
  top : up ≤ w.heap.size
  row : ∃ cs, Whole w g 67 cs ∧ cs.size = 1040
  n8 : s.length = 8
  a8 : ∀ k ∈ s, k.ans.length = 8
  cl : ∀ (i : Nat) (k : Kp), s[i]? = some k → KpAt w g (i * 130) lo up k
section
variable {w w' : World} {g lo up o : Nat} {F : List Nat}
theorem rangeAt_mod {o : Nat} {cs : List Value} (h : w.rangeAt g o cs) (hm : Mod F w w') (hl : g < w.heap.size) (hg : g ∉ F) : w'.rangeAt g o cs := fun j v hv =>
  (hm.cell (p := ⟨g, o + j, none⟩) hl hg).trans (h j v hv)
theorem Fit.mod {A : Option Addr} {c : Nat} {m : Msg} (h : Fit w A c m) (hm : Mod F w w') (hn : ∀ ad, A = some ad → ad.block ∉ F) : Fit w' A c m :=
  ⟨h.wide, h.ints.mod hm hn, fun ad e => Nat.lt_of_lt_of_le (h.lt ad e) hm.size, h.le, h.cap⟩
theorem SlAt.mod {m : Msg} (h : SlAt w g o lo up m) (hm : Mod F w w') (hl : g < w.heap.size) (hg : g ∉ F) (hF : ∀ x ∈ F, x < lo ∨ up ≤ x) : SlAt w' g o lo up m := by
  obtain ⟨A, c, h1, h2, h3, h4⟩ := h
  have hn : ∀ ad, A = some ad → ad.block ∉ F := fun ad e hx => by
    have := h3 ad e
    rcases hF _ hx with h | h <;> omega
  exact ⟨A, c, rangeAt_mod h1 hm hl hg, h2.mod hm hn, h3, fun ad e => by
    obtain ⟨cs, hw⟩ := h4 ad e
    exact ⟨cs, hm.whole hw (hn ad e)⟩⟩
/-- What is written is no list of numbers. -/
theorem SlAt.modT {m : Msg} (h : SlAt w g o lo up m) (hm : Mod F w w') (hl : g < w.heap.size) (hg : g ∉ F) (hF : ∀ x ∈ F, ¬ IntB w x) : SlAt w' g o lo up m := by
  obtain ⟨A, c, h1, h2, h3, h4⟩ := h
  have hn : ∀ ad, A = some ad → ad.block ∉ F := fun ad e hx => hF _ hx (h4 ad e)
  exact ⟨A, c, rangeAt_mod h1 hm hl hg, h2.mod hm hn, h3, fun ad e => by
    obtain ⟨cs, hw⟩ := h4 ad e
    exact ⟨cs, hm.whole hw (hn ad e)⟩⟩
theorem KpAt.mod {k : Kp} (h : KpAt w g o lo up k) (hm : Mod F w w') (hl : g < w.heap.size) (hg : g ∉ F) (hF : ∀ x ∈ F, x < lo ∨ up ≤ x) : KpAt w' g o lo up k :=
  ⟨(hm.cell (p := ⟨g, o, none⟩) hl hg).trans h.bt, (hm.cell (p := ⟨g, o + 1, none⟩) hl hg).trans h.lw, fun j m hj => (h.sl j m hj).mod hm hl hg hF⟩
variable {s : St}
theorem RepAt.ltS (h : RepAt w g lo up s) : g < w.heap.size := Nat.lt_of_lt_of_le h.lt (Nat.le_trans h.le h.top)
theorem RepAt.mod (h : RepAt w g lo up s) (hm : Mod F w w') (hg : g ∉ F) (hF : ∀ x ∈ F, x < lo ∨ up ≤ x) : RepAt w' g lo up s := by
  obtain ⟨cs, h1, h2⟩ := h.row
  exact ⟨h.lt, h.le, Nat.le_trans h.top hm.size, ⟨cs, hm.whole h1 hg, h2⟩, h.n8, h.a8, fun i k hi => (h.cl i k hi).mod hm h.ltS hg hF⟩
theorem RepAt.below (h : RepAt w g lo up s) (hb : Below w.heap.size w w') : RepAt w' g lo up s := h.mod (F := []) (Mod.of_below hb []) (by simp) (by simp)
theorem RepAt.raise {up' : Nat} (h : RepAt w g lo up s) (h1 : up ≤ up') (h2 : up' ≤ w.heap.size) : RepAt w g lo up' s :=
  ⟨h.lt, Nat.le_trans h.le h1, h2, h.row, h.n8, h.a8, fun i k hi => ⟨(h.cl i k hi).bt, (h.cl i k hi).lw, fun j m hj => by
    obtain ⟨A, c, k1, k2, k3, k4⟩ := (h.cl i k hi).sl j m hj
    exact ⟨A, c, k1, k2, fun ad e => ⟨(k3 ad e).1, Nat.lt_of_lt_of_le (k3 ad e).2 h1⟩, k4⟩⟩⟩
theorem RepAt.modT (h : RepAt w g lo up s) (hm : Mod F w w') (hg : g ∉ F) (hF : ∀ x ∈ F, ¬ IntB w x) : RepAt w' g lo up s := by
  obtain ⟨cs, h1, h2⟩ := h.row
  exact ⟨h.lt, h.le, Nat.le_trans h.top hm.size, ⟨cs, hm.whole h1 hg, h2⟩, h.n8, h.a8, fun i k hi =>
    ⟨(hm.cell (p := ⟨g, i * 130, none⟩) h.ltS hg).trans (h.cl i k hi).bt, (hm.cell (p := ⟨g, i * 130 + 1, none⟩) h.ltS hg).trans (h.cl i k hi).lw, fun j m hj => ((h.cl i k hi).sl j m hj).modT hm h.ltS hg hF⟩⟩
theorem RepAt.fr (h : RepAt w g lo up s) (i : Nat) : w.frozen? ⟨g, i, none⟩ = false := by
  obtain ⟨cs, h1, h2⟩ := h.row
  exact h1.frozen i
theorem RepAt.there (h : RepAt w g lo up s) {p n : Nat} (hp : p + n ≤ 1040) : w.there g p n := by
  obtain ⟨cs, h1, h2⟩ := h.row
  intro j hj
  refine ⟨?_, h1.frozen _⟩
  rw [h1.cell, Array.getElem?_eq_getElem (by omega)]
  rfl
theorem whole_cells {t : TypeId} {b : Nat} : ∀ (vs : List Value) (o : Nat) (w : World) (cur : Array Value), Whole w b t cur → ∃ cur', Whole (w.setCells b o vs) b t cur' ∧ cur'.size = cur.size ∧ Mod [b] w (w.setCells b o vs)
  | [], o, w, cur, h => ⟨cur, h, rfl, Mod.refl _ _⟩
  | v :: r, o, w, cur, h => by
    obtain ⟨cur', h1, h2, h3⟩ := whole_cells r (o + 1) (w.setCell ⟨b, o, none⟩ v) _ (h.store o v)
    exact ⟨cur', h1, by rw [h2, Array.size_setIfInBounds], ((Mod.refl [b] w).store (p := ⟨b, o, none⟩) (.inl (by simp)) v).trans h3 (by simp)⟩
/-- What a store into block g leaves of a message elsewhere in it. -/
theorem SlAt.apart {m : Msg} (h : SlAt w g o lo up m) (hlo : g < lo) {p : Nat} {vs : List Value} (hm : Mod [g] w (w.setCells g p vs)) (ha : o + 16 ≤ p ∨ p + vs.length ≤ o) : SlAt (w.setCells g p vs) g o lo up m := by
  obtain ⟨A, c, h1, h2, h3, h4⟩ := h
  have hn : ∀ ad, A = some ad → ad.block ∉ [g] := fun ad e hx => by
    have := h3 ad e
    simp at hx
    omega
  exact ⟨A, c, World.rangeAt_setCells_apart h1 g p vs (.inr (by rw [slotC_len]; exact ha)), h2.mod hm hn, h3, fun ad e => by
    obtain ⟨cs, hw⟩ := h4 ad e
    exact ⟨cs, hm.whole hw (hn ad e)⟩⟩
theorem cell_apart {q p : Nat} {vs : List Value} {v : Value} (h : w.cell? ⟨g, q, none⟩ = some v) (ha : q < p ∨ p + vs.length ≤ q) : (w.setCells g p vs).cell? ⟨g, q, none⟩ = some v := by
  have := World.rangeAt_setCells_apart (w := w) (b' := g) (o' := q) (cs := [v]) (fun j u hu => by
    cases j with
    | zero => simp at hu; subst hu; exact h
    | succ j => simp at hu) g p vs (.inr (by simp; omega))
  exact this 0 v rfl
/-- A message is laid into a place. -/
theorem RepAt.store (h : RepAt w g lo up s) {i j : Nat} {k : Kp} (hi : s[i]? = some k) (hj : j < 8) {m : Msg} {A : Option Addr} {c : Nat} (hf : Fit w A c m) (hA : ∀ ad, A = some ad → lo ≤ ad.block ∧ ad.block < up) (hI : ∀ ad, A = some ad → IntB w ad.block) :
    RepAt (w.setCells g (i * 130 + 2 + j * 16) (slotC m A c)) g lo up (s.set i ⟨k.boot, k.low, k.ans.set j m⟩) ∧ Mod [g] w (w.setCells g (i * 130 + 2 + j * 16) (slotC m A c)) := by
  have hi8 : i < 8 := by have := (List.getElem?_eq_some_iff.1 hi).1; have := h.n8; omega
  obtain ⟨cs, hw, hs⟩ := h.row
  obtain ⟨cs', hw', hs', hM⟩ := whole_cells (slotC m A c) (i * 130 + 2 + j * 16) w cs hw
  have hfit : Fit (w.setCells g (i * 130 + 2 + j * 16) (slotC m A c)) A c m := hf.mod hM (fun ad e hx => by have := hA ad e; have := h.lt; simp at hx; omega)
  refine ⟨⟨h.lt, h.le, Nat.le_trans h.top hM.size, ⟨cs', hw', hs'.trans hs⟩, by rw [List.length_set]; exact h.n8, fun x hx => ?_, fun i' k' hk' => ?_⟩, hM⟩
  · rcases List.mem_or_eq_of_mem_set hx with h1 | h1
    · exact h.a8 x h1
    · subst h1; show (k.ans.set j m).length = 8; rw [List.length_set]; exact h.a8 k (List.mem_of_getElem? hi)
  · by_cases e : i = i'
    · subst e
      rw [List.getElem?_set_self (by have := h.n8; omega)] at hk'
      cases hk'
      have hc := h.cl i k hi
      refine ⟨cell_apart hc.bt (by omega), cell_apart hc.lw (by omega), fun j' x hx => ?_⟩
      have hx : (k.ans.set j m)[j']? = some x := hx
      by_cases e : j = j'
      · subst e
        rw [List.getElem?_set_self (by rw [h.a8 k (List.mem_of_getElem? hi)]; exact hj)] at hx
        cases hx
        exact ⟨A, c, World.rangeAt_setCells_same w g _ _ (h.there (by rw [slotC_len]; omega)), hfit, hA, fun ad e => by
          obtain ⟨cs, hw⟩ := hI ad e
          exact ⟨cs, hM.whole hw (by have := hA ad e; have := h.lt; simp; omega)⟩⟩
      · rw [List.getElem?_set_ne e] at hx
        exact (hc.sl j' x hx).apart h.lt hM (by rw [slotC_len]; omega)
    · rw [List.getElem?_set_ne e] at hk'
      have hc := h.cl i' k' hk'
      have hi8' : i' < 8 := by have := (List.getElem?_eq_some_iff.1 hk').1; have := h.n8; omega
      refine ⟨cell_apart hc.bt (by rw [slotC_len]; omega), cell_apart hc.lw (by rw [slotC_len]; omega), fun j' x hx => (hc.sl j' x hx).apart h.lt hM ?_⟩
      have hj8 : j' < 8 := by have := (List.getElem?_eq_some_iff.1 hx).1; have := h.a8 k' (List.mem_of_getElem? hk'); omega
      rw [slotC_len]; omega
/-- A client's boot and low are laid. -/
theorem RepAt.span (h : RepAt w g lo up s) {i : Nat} {k : Kp} (hi : s[i]? = some k) (b l : Int) :
    RepAt (w.setCells g (i * 130) [.int .i64 b, .int .i64 l]) g lo up (s.set i ⟨b, l, k.ans⟩) ∧ Mod [g] w (w.setCells g (i * 130) [.int .i64 b, .int .i64 l]) := by
  have hi8 : i < 8 := by have := (List.getElem?_eq_some_iff.1 hi).1; have := h.n8; omega
  obtain ⟨cs, hw, hs⟩ := h.row
  obtain ⟨cs', hw', hs', hM⟩ := whole_cells [.int .i64 b, .int .i64 l] (i * 130) w cs hw
  refine ⟨⟨h.lt, h.le, Nat.le_trans h.top hM.size, ⟨cs', hw', hs'.trans hs⟩, by rw [List.length_set]; exact h.n8, fun x hx => ?_, fun i' k' hk' => ?_⟩, hM⟩
  · rcases List.mem_or_eq_of_mem_set hx with h1 | h1
    · exact h.a8 x h1
    · subst h1; exact h.a8 k (List.mem_of_getElem? hi)
  · by_cases e : i = i'
    · subst e
      rw [List.getElem?_set_self (by have := h.n8; omega)] at hk'
      cases hk'
      have hc := h.cl i k hi
      have hr := World.rangeAt_setCells_same w g (i * 130) [.int .i64 b, .int .i64 l] (h.there (by simp; omega))
      exact ⟨hr 0 _ rfl, hr 1 _ rfl, fun j' x hx => (hc.sl j' x hx).apart h.lt hM (by right; show i * 130 + 2 ≤ i * 130 + 2 + j' * 16; omega)⟩
    · rw [List.getElem?_set_ne e] at hk'
      have hc := h.cl i' k' hk'
      have hi8' : i' < 8 := by have := (List.getElem?_eq_some_iff.1 hk').1; have := h.n8; omega
      refine ⟨cell_apart hc.bt (by simp; omega), cell_apart hc.lw (by simp; omega), fun j' x hx => (hc.sl j' x hx).apart h.lt hM ?_⟩
      have hj8 : j' < 8 := by have := (List.getElem?_eq_some_iff.1 hx).1; have := h.a8 k' (List.mem_of_getElem? hk'); omega
      simp; omega
end
/-! ### All of a client's messages at once -/
theorem flat_at : ∀ (l : List (List Value)) (j : Nat) (x : List Value), (∀ y ∈ l, y.length = 16) → l[j]? = some x → (l.flatten.drop (j * 16)).take 16 = x
  | [], j, x, _, h => by simp at h
  | y :: r, 0, x, hl, h => by
    simp at h
    subst h
    have := hl y (by simp)
    rw [Nat.zero_mul, List.drop_zero, List.flatten_cons, List.take_append_of_le_length (by omega), List.take_of_length_le (by omega)]
  | y :: r, j + 1, x, hl, h => by
    have h1 := hl y (by simp)
    rw [List.flatten_cons, show (j + 1) * 16 = y.length + j * 16 by omega, List.drop_append, List.drop_of_length_le (by omega), List.nil_append, show y.length + j * 16 - y.length = j * 16 by omega]
    exact flat_at r j x (fun z hz => hl z (by simp [hz])) (by simpa using h)
theorem flat_len : ∀ (l : List (List Value)), (∀ y ∈ l, y.length = 16) → l.flatten.length = l.length * 16
  | [], _ => rfl
  | y :: r, hl => by
    rw [List.flatten_cons, List.length_append, hl y (by simp), flat_len r (fun z hz => hl z (by simp [hz])), List.length_cons]; omega
theorem range_cat {w : World} {g o : Nat} {a b : List Value} (h1 : w.rangeAt g o a) (h2 : w.rangeAt g (o + a.length) b) : w.rangeAt g o (a ++ b) := fun j v hv => by
  by_cases h : j < a.length
  · rw [List.getElem?_append_left h] at hv
    exact h1 j v hv
  · rw [List.getElem?_append_right (by omega)] at hv
    have := h2 _ v hv
    rw [show o + a.length + (j - a.length) = o + j by omega] at this
    exact this
theorem sl_all {w : World} {g lo up : Nat} : ∀ (l : List Msg) (o : Nat), (∀ (j : Nat) (m : Msg), l[j]? = some m → SlAt w g (o + j * 16) lo up m) →
    ∃ cs : List (List Value), cs.length = l.length ∧ (∀ y ∈ cs, y.length = 16) ∧ w.rangeAt g o cs.flatten ∧ ∀ (j : Nat) (m : Msg), l[j]? = some m → ∃ A c, cs[j]? = some (slotC m A c) ∧ Fit w A c m ∧ ∀ ad, A = some ad → lo ≤ ad.block ∧ ad.block < up
  | [], o, _ => ⟨[], rfl, by simp, fun j v hv => by simp at hv, fun j m h => by simp at h⟩
  | m :: r, o, h => by
    obtain ⟨A, c, h1, h2, h3, _⟩ := h 0 m rfl
    obtain ⟨cs, k1, k2, k3, k4⟩ := sl_all r (o + 16) (fun j x hx => by have := h (j + 1) x (by simpa using hx); rw [show o + (j + 1) * 16 = o + 16 + j * 16 by omega] at this; exact this)
    refine ⟨slotC m A c :: cs, by simp [k1], fun y hy => ?_, ?_, fun j x hx => ?_⟩
    · rcases List.mem_cons.1 hy with e | e
      · subst e; rfl
      · exact k2 y e
    · rw [List.flatten_cons]
      exact range_cat (by simpa using h1) (by rw [slotC_len]; exact k3)
    · cases j with
      | zero => simp at hx; subst hx; exact ⟨A, c, rfl, h2, h3⟩
      | succ j => simpa using k4 j x (by simpa using hx)
end Go.Proofs.Ytbjemihcbbiiaaa
namespace Go.Proofs.Ytbjemihcbbiiaaa
open Go.RowKit
open RP (Kp St)
open WM (Msg)
set_option linter.unusedVariables false
set_option linter.unusedSimpArgs false
set_option maxRecDepth 100000
section
variable {w : World}
set_option maxHeartbeats 1000000 in
theorem has_any (b l : Int) (m : Msg) (sv : Value) (w : World) (hl : 0 ≤ l ∧ l ≤ 1099511627776) :
    Calls Try.prog 26 #[.agg #[.int .i64 b, .int .i64 l], .agg (cellsM m sv)] w fun e w' => e = .returned (.bool (RP.has b l m)) ∧ Below w.heap.size w w' := by
  have HX := Lib.hid (((Below.refl w.heap.size w).alloc (Nat.le_refl _) (.cells #[.int .i64 b, .int .i64 l] 61)).alloc (by simp) (.cells (cellsM m sv) 32))
  have hw : IntKind.i64.wrap (l + 8) = l + 8 := by rw [IntKind.wrap_i64]; omega
  have HE := Lib.hid (show RP.has b l m = (decide (m.boot = b) && (decide (l ≤ m.seq) && decide (m.seq < l + 8))) from rfl)
  rw [HE.out]
  by_cases h1 : m.boot = b
  · by_cases h2 : l ≤ m.seq
    · by_cases h3 : m.seq < l + 8
      all_goals
        unfold cellsM at *
        go_enter Try.func26, Try.ntmps26
        go_wp2_with fail
        go_ret
        exact ⟨ret_bool (by simp [*] <;> omega), ((Below.refl _ w).alloc (Nat.le_refl _) _).alloc (by simp) _⟩
    · unfold cellsM at *
      go_enter Try.func26, Try.ntmps26
      go_wp2_with fail
      go_ret
      exact ⟨ret_bool (by simp [*] <;> omega), ((Below.refl _ w).alloc (Nat.le_refl _) _).alloc (by simp) _⟩
  · unfold cellsM at *
    go_enter Try.func26, Try.ntmps26
    go_wp2_with fail
    go_ret
    exact ⟨ret_bool (by simp [*] <;> omega), ((Below.refl _ w).alloc (Nat.le_refl _) _).alloc (by simp) _⟩
set_option maxHeartbeats 1000000 in
theorem after_any (b l : Int) (m : Msg) (sv : Value) (w : World) :
    Calls Try.prog 37 #[.agg #[.int .i64 b, .int .i64 l], .agg (cellsM m sv)] w fun e w' => e = .returned (.agg #[.int .i64 (RP.aftB b l m), .int .i64 (RP.aftL b l m)]) ∧ Below w.heap.size w w' := by
  by_cases h1 : b < m.boot
  · rw [show RP.aftB b l m = m.boot by unfold RP.aftB; rw [if_pos h1], show RP.aftL b l m = m.low by unfold RP.aftL; rw [if_pos h1]]
    unfold cellsM at *
    go_enter Try.func37, Try.ntmps37
    go_wp2_with fail
    refine bodyPost_ret (v := .agg #[.int .i64 m.boot, .int .i64 m.low]) (by simp [results, Try.results37, go_sem]) rfl ?_
    exact ⟨rfl, (((Below.refl _ w).alloc (Nat.le_refl _) _).alloc (by simp) _).alloc (by simp; omega) _⟩
  · by_cases h2 : m.boot = b
    · by_cases h3 : l < m.low
      · rw [show RP.aftB b l m = b by unfold RP.aftB; rw [if_neg h1], show RP.aftL b l m = m.low by unfold RP.aftL; rw [if_neg h1, if_pos h2]; omega]
        unfold cellsM at *
        go_enter Try.func37, Try.ntmps37
        go_wp2_with fail
        refine bodyPost_ret (v := .agg #[.int .i64 b, .int .i64 m.low]) (by simp [results, Try.results37, go_sem]) rfl ?_
        exact ⟨rfl, (((Below.refl _ w).alloc (Nat.le_refl _) _).alloc (by simp) _).alloc (by simp; omega) _⟩
      · rw [show RP.aftB b l m = b by unfold RP.aftB; rw [if_neg h1], show RP.aftL b l m = l by unfold RP.aftL; rw [if_neg h1, if_pos h2]; omega]
        unfold cellsM at *
        go_enter Try.func37, Try.ntmps37
        go_wp2_with fail
        refine bodyPost_ret (v := .agg #[.int .i64 b, .int .i64 l]) (by simp [results, Try.results37, go_sem]) rfl ?_
        exact ⟨rfl, (((Below.refl _ w).alloc (Nat.le_refl _) _).alloc (by simp) _).alloc (by simp; omega) _⟩
    · rw [show RP.aftB b l m = b by unfold RP.aftB; rw [if_neg h1], show RP.aftL b l m = l by unfold RP.aftL; rw [if_neg h1, if_neg h2]]
      unfold cellsM at *
      go_enter Try.func37, Try.ntmps37
      go_wp2_with fail
      refine bodyPost_ret (v := .agg #[.int .i64 b, .int .i64 l]) (by simp [results, Try.results37, go_sem]) rfl ?_
      exact ⟨rfl, (((Below.refl _ w).alloc (Nat.le_refl _) _).alloc (by simp) _).alloc (by simp; omega) _⟩
set_option maxHeartbeats 1000000 in
theorem place_any (g o : Nat) (q : Int) (w : World) (hq : 0 ≤ q ∧ q ≤ 1099511627776) :
    Calls Try.prog 24 #[.pointer (some ⟨g, o, none⟩), .int .i64 q] w fun e w' => e = .returned (.pointer (some ⟨g, o + 2 + RP.spot q * 16, none⟩)) ∧ w' = w := by
  have h1 : q.tmod 8 = q % 8 := Int.tmod_eq_emod_of_nonneg hq.1
  have h2 : 0 ≤ q % 8 ∧ q % 8 < 8 := by omega
  have h3 : IntKind.i64.wrap (q % 8) = q % 8 := by rw [IntKind.wrap_i64]; omega
  go_enter Try.func24, Try.ntmps24
  go_wp2_with fail
  go_ret
  exact ⟨rfl, rfl⟩
end
end Go.Proofs.Ytbjemihcbbiiaaa
