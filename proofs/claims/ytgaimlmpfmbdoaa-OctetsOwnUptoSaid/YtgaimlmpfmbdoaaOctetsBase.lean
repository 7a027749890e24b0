/- Memory of layer 2: a block that is known whole, what a call may have turned, a writer that has laid bytes down, a slice that reads as bytes. -/
import Derived.Test.YtgaimlmpfmbdoaaChecked
import Derived.Test.YtgaimlmpfmbdoaaOctetsMath
import Derived.WalkKit
import Derived.WalkSpells
import Derived.WalkLawsBesides
import Derived.WalkMore
import Derived.StillTactics
import Derived.RegionTactic
import Derived.Deep.QuietTactic
import Derived.BigQuiet
import Derived.Lib.Hide
import Derived.Lib.Strings
import Derived.Deep.RegionHeld3
import Derived.Deep.RegionLaw
import Derived.Deep.AppendLies
import Derived.Deep.DeepCutAuto
import Derived.Laws.AppendOwnNone
import Derived.Laws.BitsAllLaws
import Derived.Laws.BytesString
import Derived.KernelRfl
namespace Go.Proofs.Ytgaimlmpfmbdoaa
open Go.RowKit

theorem ret_int {k : IntKind} {a b : Int} (h : a = b) : Ending.returned (.int k a) = .returned (.int k b) := by rw [h]
theorem ret_bool {a b : Bool} (h : a = b) : Ending.returned (.bool a) = .returned (.bool b) := by rw [h]

/-- A byte as a value, bytes as values. -/
def u8 (c : UInt8) : Value := .int .u8 (c.toNat : Int)
def u8s (l : List UInt8) : List Value := l.map u8
theorem u8s_len (l : List UInt8) : (u8s l).length = l.length := by simp [u8s]
theorem u8s_append (a b : List UInt8) : u8s (a ++ b) = u8s a ++ u8s b := by simp [u8s]
theorem one_u8 {l : List UInt8} : ∀ u ∈ u8s l, u.oneCell' = true := by
  intro u hu
  obtain ⟨x, _, rfl⟩ := List.mem_map.1 hu
  rfl
theorem info_u8 : (Try.prog.info? 5).map (fun i => (i.zero, i.size, i.bytes)) = some (some (.int .u8 0), 1, 1) := by kernel_rfl

/-- Block g holds just these cells, none frozen. -/
def Whole (w : World) (g : Nat) (t : TypeId) (cs : Array Value) : Prop := w.heap[g]? = some (.cells cs t (0, 0))
section
variable {w w' : World} {g : Nat} {t : TypeId} {cs : Array Value}
theorem Whole.lt (h : Whole w g t cs) : g < w.heap.size := (Array.getElem?_eq_some_iff.1 h).1
theorem Whole.cell (h : Whole w g t cs) (i : Nat) : w.cell? ⟨g, i, none⟩ = cs[i]? := cell_of_row w g i cs t (0, 0) h
theorem Whole.frozen (h : Whole w g t cs) (i : Nat) : w.frozen? ⟨g, i, none⟩ = false := by
  unfold Whole at h
  simp [World.frozen?, h]
theorem Whole.new (w : World) (t : TypeId) (cs : Array Value) : Whole (w.alloc (.cells cs t)) w.heap.size t cs := heap_alloc_new w _
theorem Whole.store (h : Whole w g t cs) (i : Nat) (u : Value) : Whole (w.setCell ⟨g, i, none⟩ u) g t (cs.setIfInBounds i u) := by
  unfold Whole at h ⊢
  simp [World.setCell, Array.getElem?_modify, h]
theorem Whole.ne {g' : Nat} {t' : TypeId} {cs' : Array Value} (h : Whole w g t cs) (h' : Whole w g' t' cs') (hne : t ≠ t') : g ≠ g' := by
  intro e
  subst e
  unfold Whole at h h'
  rw [h] at h'
  injection h' with h'
  injection h' with _ ht
  exact hne ht
end

/-- What a call may have turned: of the blocks that were there only those in F. -/
structure Mod (F : List Nat) (w w' : World) : Prop where
  os : w'.os = w.os
  tape : w'.tape = w.tape
  output : w'.output = w.output
  size : w.heap.size ≤ w'.heap.size
  block : ∀ k, k < w.heap.size → k ∉ F → w'.heap[k]? = w.heap[k]?
section
variable {F G : List Nat} {a b c w : World}
theorem Mod.refl (F : List Nat) (w : World) : Mod F w w := ⟨rfl, rfl, rfl, Nat.le_refl _, fun _ _ _ => rfl⟩
theorem Mod.trans (h : Mod F a b) (k : Mod G b c) (hG : ∀ x ∈ G, x ∈ F ∨ a.heap.size ≤ x) : Mod F a c :=
  ⟨k.os.trans h.os, k.tape.trans h.tape, k.output.trans h.output, Nat.le_trans h.size k.size, fun i hi hF =>
    (k.block i (Nat.lt_of_lt_of_le hi h.size) (fun hg => (hG i hg).elim hF (fun h => by omega))).trans (h.block i hi hF)⟩
theorem Mod.mono (h : Mod F a b) (hF : ∀ x ∈ F, x ∈ G ∨ a.heap.size ≤ x) : Mod G a b :=
  ⟨h.os, h.tape, h.output, h.size, fun i hi hG => h.block i hi (fun hf => (hF i hf).elim hG (fun h => by omega))⟩
theorem Mod.drew (h : Mod F a b) : Mod F a b.drew := ⟨h.os, h.tape, h.output, h.size, h.block⟩
theorem Mod.from_drew (h : Mod F a.drew b) : Mod F a b := ⟨h.os, h.tape, h.output, h.size, h.block⟩
theorem Mod.alloc (h : Mod F a b) (o : Obj) : Mod F a (b.alloc o) :=
  h.trans (G := []) ⟨rfl, rfl, rfl, by simp, fun k hk _ => Below.heap_alloc b o k hk⟩ (by simp)
theorem Mod.store (h : Mod F a b) {p : Addr} (hp : p.block ∈ F ∨ a.heap.size ≤ p.block) (u : Value) : Mod F a (b.setCell p u) :=
  h.trans (G := [p.block]) ⟨rfl, rfl, rfl, by simp, fun k _ hk => Below.heap_setCell b p u k (by simpa using hk)⟩ (by simpa using hp)
theorem Mod.grown (h : Mod F a b) {row : Option Nat} (hg : b.grownBy c row) (hr : ∀ k, row = some k → k ∈ F ∨ a.heap.size ≤ k) : Mod F a c :=
  h.trans (G := row.toList) ⟨hg.os, hg.tape, hg.output, hg.size, fun k hk hn => hg.block k hk (fun e => hn (by rw [← e]; simp))⟩
    (fun x hx => hr x (by simpa using hx))
theorem Mod.below (h : Mod F a b) {B : Nat} (hB : B ≤ a.heap.size) (hF : ∀ x ∈ F, B ≤ x) : Below B a b :=
  ⟨h.os, h.tape, h.output, h.size, fun k hk => h.block k (by omega) (fun hf => by have := hF k hf; omega)⟩
theorem Mod.of_below (h : Below a.heap.size a b) (F : List Nat) : Mod F a b := ⟨h.os, h.tape, h.output, h.size, fun k hk _ => h.block k hk⟩
theorem Mod.cell (h : Mod F a b) {p : Addr} (hp : p.block < a.heap.size) (hn : p.block ∉ F) : b.cell? p = a.cell? p := World.cell?_of_block (w := a) (h.block p.block hp hn)
theorem Mod.whole (h : Mod F a b) {g : Nat} {t : TypeId} {cs : Array Value} (hw : Whole a g t cs) (hn : g ∉ F) : Whole b g t cs := (h.block g hw.lt hn).trans hw
theorem Mod.own (h : Mod F a b) {base : Nat} {e : TypeId} {size n : Nat} {v : Value} {xs : List Value} (ho : a.ownsRow base e size v n xs) (hn : ∀ k, v.ownBlock = some k → k ∉ F) : b.ownsRow base e size v n xs := by
  refine ⟨ho.1, ?_⟩
  rcases ho.2 with h0 | ⟨g, cap, cur, rfl, hb, hh, hr⟩
  · exact .inl h0
  · have hlt : g < a.heap.size := (Array.getElem?_eq_some_iff.1 hh).1
    exact .inr ⟨g, cap, cur, rfl, hb, (h.block g hlt (hn g rfl)).trans hh, hr⟩
end
theorem own_ne {w : World} {base : Nat} {e t : TypeId} {size n : Nat} {v : Value} {xs : List Value} {g : Nat} {cs : Array Value} (h : w.ownsRow base e size v n xs) (hg : Whole w g t cs) (hne : e ≠ t) :
    v.ownBlock ≠ some g := by
  rcases h.2 with ⟨rfl, _⟩ | ⟨g', cap, cur, rfl, _, hh, _⟩
  · simp [Value.ownBlock]
  · intro he
    have e : g' = g := by simpa [Value.ownBlock] using he
    subst e
    exact Whole.ne (t := _) hh hg hne rfl

/-- A writer at block a that has laid down L, on the blocks F. -/
def WAt (w : World) (a : Nat) (L : List UInt8) (F : List Nat) : Prop :=
  (L = [] ∧ F = [a] ∧ Whole w a 24 #[.pointer none, .int .i64 0]) ∨
  (∃ p g cap, F = [a, p, g] ∧ Whole w a 24 #[.pointer (some ⟨p, 0, none⟩), .int .i64 (L.length : Int)] ∧
    Whole w p 66 #[.slice (some ⟨g, 0, none⟩) L.length cap] ∧ w.ownsRow 0 5 1 (.slice (some ⟨g, 0, none⟩) L.length cap) L.length (u8s L))
theorem WAt.new (w : World) : WAt (w.alloc (.cells #[.pointer none, .int .i64 0] 24)) w.heap.size [] [w.heap.size] := .inl ⟨rfl, rfl, Whole.new w _ _⟩
theorem WAt.mod {w w' : World} {a : Nat} {L : List UInt8} {F G : List Nat} (h : WAt w a L F) (hm : Mod G w w') (hd : ∀ x ∈ F, x ∉ G) : WAt w' a L F := by
  rcases h with ⟨rfl, rfl, h⟩ | ⟨p, g, cap, rfl, h1, h2, h3⟩
  · exact .inl ⟨rfl, rfl, hm.whole h (hd a (by simp))⟩
  · exact .inr ⟨p, g, cap, rfl, hm.whole h1 (hd a (by simp)), hm.whole h2 (hd p (by simp)), hm.own h3 (fun k hk => by
      have e : g = k := by simpa [Value.ownBlock] using hk
      subst e
      exact hd g (by simp))⟩
theorem WAt.lt {w : World} {a : Nat} {L : List UInt8} {F : List Nat} (h : WAt w a L F) : ∀ x ∈ F, x < w.heap.size := by
  rcases h with ⟨rfl, rfl, h⟩ | ⟨p, g, cap, rfl, h1, h2, h3⟩
  · intro x hx
    have e : x = a := by simpa using hx
    rw [e]; exact h.lt
  · intro x hx
    have e : x = a ∨ x = p ∨ x = g := by simpa using hx
    rcases e with rfl | rfl | rfl
    · exact h1.lt
    · exact h2.lt
    · exact (h3.lt x rfl).2

/-- What a call on a writer leaves: it has laid down L by now. -/
def Laid (w : World) (a : Nat) (F : List Nat) (L : List UInt8) (w' : World) : Prop := ∃ F', WAt w' a L F' ∧ Mod F w w' ∧ ∀ x ∈ F', x ∈ F ∨ w.heap.size ≤ x
theorem Laid.refl {w : World} {a : Nat} {L : List UInt8} {F : List Nat} (h : WAt w a L F) : Laid w a F L w := ⟨F, h, Mod.refl F w, fun _ hx => .inl hx⟩
theorem Laid.then_ {w w1 w2 : World} {a : Nat} {L M : List UInt8} {F : List Nat} (h : Laid w a F L w1) (k : ∀ F1, WAt w1 a L F1 → Laid w1 a F1 M w2) : Laid w a F M w2 := by
  obtain ⟨F1, h1, h2, h3⟩ := h
  obtain ⟨F2, k1, k2, k3⟩ := k F1 h1
  exact ⟨F2, k1, h2.trans k2 h3, fun x hx => (k3 x hx).elim (h3 x) (fun hs => .inr (Nat.le_trans h2.size hs))⟩

/-- A slice that reads as bytes, nil let in; its cells lie in block b. -/
def BytesAt (w : World) (A : Option Addr) (xs : List UInt8) : Prop :=
  0 < xs.length → ∃ b o, A = some ⟨b, o, none⟩ ∧ b < w.heap.size ∧ ∀ j x, xs[j]? = some x → w.cell? ⟨b, o + j, none⟩ = some (u8 x)
theorem BytesAt.nil (w : World) (A : Option Addr) : BytesAt w A [] := fun h => absurd h (Nat.lt_irrefl 0)
theorem BytesAt.mod {w w' : World} {A : Option Addr} {xs : List UInt8} {G : List Nat} (h : BytesAt w A xs) (hm : Mod G w w') (hn : ∀ ad, A = some ad → ad.block ∉ G) : BytesAt w' A xs := fun h0 => by
  obtain ⟨b, o, e, hb, hc⟩ := h h0
  exact ⟨b, o, e, Nat.lt_of_lt_of_le hb hm.size, fun j x hx => (hm.cell (p := ⟨b, o + j, none⟩) hb (show b ∉ G from hn _ e)).trans (hc j x hx)⟩
theorem BytesAt.below {w w' : World} {A : Option Addr} {xs : List UInt8} (h : BytesAt w A xs) (hb : Below w.heap.size w w') : BytesAt w' A xs := h.mod (Mod.of_below hb []) (by simp)
theorem BytesAt.own {w : World} {A : Option Addr} {n c : Nat} {xs : List UInt8} {base : Nat} (h : w.ownsRow base 5 1 (.slice A n c) n (u8s xs)) : BytesAt w A xs := fun h0 => by
  have hl := h.1
  rw [u8s_len, Nat.mul_one] at hl
  obtain ⟨g, cap, hv, _, hlt⟩ := h.form (by omega)
  have hA : A = some ⟨g, 0, none⟩ := by injection hv
  subst hA
  refine ⟨g, 0, rfl, hlt, fun j x hx => ?_⟩
  have := h.cells (g := g) rfl j (u8 x) (by simp [u8s, hx])
  rwa [Addr.add_lit] at this
theorem Whole.drewN {w : World} {g : Nat} {t : TypeId} {cs : Array Value} (h : Whole w g t cs) (n : Nat) : Whole (w.drewN n) g t cs := h
theorem Mod.drewN {F : List Nat} {a b : World} (h : Mod F a b) (n : Nat) : Mod F a (b.drewN n) := ⟨h.os, h.tape, h.output, h.size, h.block⟩
theorem Whole.far {w : World} {g : Nat} {t : TypeId} {cs : Array Value} (h : Whole w g t cs) {q : Addr} (hq : g ≠ q.block) (u : Value) : Whole (w.setCell q u) g t cs := (Below.heap_setCell w q u g hq).trans h
theorem Whole.alloc {w : World} {g : Nat} {t : TypeId} {cs : Array Value} (h : Whole w g t cs) (o : Obj) : Whole (w.alloc o) g t cs := (Below.heap_alloc w o g h.lt).trans h
theorem own_far {w : World} {base : Nat} {e : TypeId} {size n : Nat} {v : Value} {xs : List Value} (h : w.ownsRow base e size v n xs) {q : Addr} (hq : v.ownBlock ≠ some q.block) (u : Value) : (w.setCell q u).ownsRow base e size v n xs := by
  refine ⟨h.1, ?_⟩
  rcases h.2 with h0 | ⟨g, cap, cur, rfl, hb, hh, hr⟩
  · exact .inl h0
  · exact .inr ⟨g, cap, cur, rfl, hb, (Below.heap_setCell w q u g (fun e => hq (by rw [← e]; rfl))).trans hh, hr⟩

/-- Behind the append: the page and the writer are brought up to date. -/
theorem laid_of {w w3 w1 : World} {F : List Nat} {a p g cap : Nat} {c : UInt8} {L : List UInt8} {v : Value}
    (M3 : Mod F w w3) (ha : a ∈ F) (hp : p ∈ F ∨ w.heap.size ≤ p) (hv : ∀ k, v.ownBlock = some k → k ∈ F ∨ w.heap.size ≤ k)
    (V1 : Whole w1 a 24 #[.pointer (some ⟨p, 0, none⟩), .int .i64 (L.length : Int)]) (V2 : Whole w1 p 66 #[v])
    (hown : w1.ownsRow 0 5 1 (.slice (some ⟨g, 0, none⟩) (L.length + 1) cap) (L.length + 1) (u8s L ++ [u8 c]))
    (hgrow : (w3.alloc (.cells #[u8 c] 5)).drew.grownBy w1 v.ownBlock) (hat : v.ownBlock = some g ∨ g = w3.heap.size + 1) (hne : a ≠ p) :
    Laid w a F (L ++ [c]) ((w1.setCell ⟨p, 0, none⟩ (.slice (some ⟨g, 0, none⟩) (L.length + 1) cap)).setCell ⟨a, 1, none⟩ (.int .i64 ((L.length : Int) + 1))) := by
  have M1 : Mod F w w1 := ((M3.alloc _).drew).grown hgrow hv
  have nga : (Value.slice (some ⟨g, 0, none⟩) (L.length + 1) cap).ownBlock ≠ some a := own_ne hown V1 (by decide)
  have ngp : (Value.slice (some ⟨g, 0, none⟩) (L.length + 1) cap).ownBlock ≠ some p := own_ne hown V2 (by decide)
  refine ⟨[a, p, g], .inr ⟨p, g, cap, rfl, ?_, ?_, ?_⟩, (M1.store hp _).store (.inl ha) _, ?_⟩
  · have h := (V1.far (q := ⟨p, 0, none⟩) hne (.slice (some ⟨g, 0, none⟩) (L.length + 1) cap)).store 1 (.int .i64 ((L.length : Int) + 1))
    have e : ((L ++ [c]).length : Int) = (L.length : Int) + 1 := by simp
    rw [e]
    exact h
  · have h := (V2.store 0 (.slice (some ⟨g, 0, none⟩) (L.length + 1) cap)).far (q := ⟨a, 1, none⟩) (Ne.symm hne) (.int .i64 ((L.length : Int) + 1))
    rw [List.length_append]
    exact h
  · rw [List.length_append, u8s_append]
    exact own_far (own_far hown (q := ⟨p, 0, none⟩) ngp _) (q := ⟨a, 1, none⟩) nga _
  · intro x hx
    have e : x = a ∨ x = p ∨ x = g := by simpa using hx
    rcases e with rfl | rfl | rfl
    · exact .inl ha
    · exact hp
    · rcases hat with h | h
      · exact hv _ h
      · right
        have := M3.size
        omega
end Go.Proofs.Ytgaimlmpfmbdoaa
