/- How the bag and the document's bag stand side by side. -/
import Derived.Test.YtnbfdgccaacdiaaBagW13
namespace Go.Proofs.Ytnbfdgccaacdiaa.Own
open Go.RowKit
open By (BytesAt)
set_option linter.unusedVariables false
set_option linter.unusedSimpArgs false
set_option maxRecDepth 100000
/-- How the bag and the document's bag stand. -/
structure Pl (S : Nat → Prop) (g gm : Nat) (w v : World) (b r : Bg) (Bm : Option Addr) (cm n : Nat) : Prop where
  sound : Sound b n
  bag : BagAt S v g b.ps b.s b.q
  soundr : Sound r n
  blk : Whole v gm 28 (bag3 Bm r.ps.length cm r.s r.q)
  le : r.ps.length ≤ cm ∧ cm ≤ 9223372036854775807
  pks : PksAt S v Bm r.ps
  far : w.heap.size ≤ g ∧ g < gm
  self : ¬ S gm
  below : Below w.heap.size w v
section
variable {S S' : Nat → Prop} {g gm : Nat} {w v v' : World} {b b' r r' : Bg} {Bm B' : Option Addr} {cm c' n n' : Nat}
theorem Pl.keep (h : Pl S g gm w v b r Bm cm n) (hb : Below v.heap.size v v') : Pl S g gm w v' b r Bm cm n :=
  ⟨h.sound, h.bag.below hb, h.soundr, (Mod.of_below hb []).whole h.blk (by simp), h.le, h.pks.below hb, h.far, h.self, below_on h.below hb⟩
theorem Pl.drew (h : Pl S g gm w v b r Bm cm n) : Pl S g gm w v.drew b r Bm cm n := h.keep (Below.drew (Below.refl _ v))
theorem Pl.cells (h : Pl S g gm w v b r Bm cm n) : v.cell? ⟨gm, 0, none⟩ = some (.slice Bm r.ps.length cm) ∧ v.cell? ⟨gm, 1, none⟩ = some (.int .i64 r.s) ∧ v.cell? ⟨gm, 2, none⟩ = some (.int .i64 r.q) := ⟨h.blk.cell 0, h.blk.cell 1, h.blk.cell 2⟩
theorem Pl.more (h : Pl S g gm w v b r Bm cm n) (hn : n ≤ n') : Pl S g gm w v b r Bm cm n' := ⟨h.sound.mono hn, h.bag, h.soundr.mono hn, h.blk, h.le, h.pks, h.far, h.self, h.below⟩
theorem Pl.other (h : Pl S g gm w v b r Bm cm n) (hS : ∀ x, x < v.heap.size → S x → S' x) (hg : ¬ S' g) (hm : ¬ S' gm) : Pl S' g gm w v b r Bm cm n :=
  ⟨h.sound, h.bag.mono hS hg, h.soundr, h.blk, h.le, h.pks.mono hS, h.far, hm, h.below⟩
theorem Pl.put (h : Pl S g gm w v b r Bm cm n) (hp : PksAt S v B' r'.ps) (hl : r'.ps.length ≤ c' ∧ c' ≤ 9223372036854775807) (hs : Sound r' n) :
    Pl S g gm w (((v.setCell ⟨gm, 0, none⟩ (.slice B' r'.ps.length c')).setCell ⟨gm, 1, none⟩ (.int .i64 r'.s)).setCell ⟨gm, 2, none⟩ (.int .i64 r'.q)) b r' B' c' n := by
  have hm := mod3 v gm 0 1 2 (.slice B' r'.ps.length c') (.int .i64 r'.s) (.int .i64 r'.q)
  have hn : ∀ x ∈ [gm], ¬ S x := by intro x hx; rw [List.mem_singleton.1 hx]; exact h.self
  have hf := h.far
  exact ⟨h.sound, h.bag.mod (by simp; omega) hm hn, hs, (((h.blk.store 0 _).store 1 _).store 2 _), hl, hp.mod hm hn, hf, h.self, h.below.trans (hm.below h.below.size (by intro x hx; rw [List.mem_singleton.1 hx]; omega))⟩
theorem Pl.bagged (h : Pl S g gm w v b r Bm cm n) (hb : BagAt S v' g b'.ps b'.s b'.q) (hm : Mod [g] v v') (hs : Sound b' n) : Pl S g gm w v' b' r Bm cm n := by
  have hf := h.far
  have hn : ∀ x ∈ [g], ¬ S x := by intro x hx; rw [List.mem_singleton.1 hx]; exact h.bag.self
  exact ⟨hs, hb, h.soundr, hm.whole h.blk (by simp; omega), h.le, h.pks.mod hm hn, hf, h.self, h.below.trans (hm.below h.below.size (by intro x hx; rw [List.mem_singleton.1 hx]; omega))⟩
theorem Pl.hS (h : Pl S g gm w v b r Bm cm n) (x : Nat) (hx : v.heap.size ≤ x) : x ≠ g ∧ x ≠ gm := by
  have h1 := h.bag.lt
  have h2 := h.blk.lt
  exact ⟨by omega, by omega⟩
end
theorem pl0 {w w1 w2 : World} (hX : Below w.heap.size w w1) (hw : w2 = w1.alloc (.cells bag0 56)) : Pl (fun x => x ≠ w1.heap.size ∧ x ≠ w2.heap.size) w1.heap.size w2.heap.size w (w2.alloc (.cells bagZ 28)) ⟨[], 0, 0⟩ ⟨[], 0, 0⟩ none 0 0 := by
  subst hw
  refine ⟨sound0 0, ?_, sound0 0, Whole.new _ _ _, ⟨Nat.le_refl _, by decide⟩, PksAt.nil, ⟨hX.size, by simp⟩, fun h => h.2 rfl, ?_⟩
  · exact (bag0_at w1 (S := fun x => x ≠ w1.heap.size ∧ x ≠ (w1.alloc (.cells bag0 56)).heap.size) (fun h => h.1 rfl)).below ((Below.refl _ _).alloc (Nat.le_refl _) _)
  · exact (hX.alloc hX.size _).alloc (by have := hX.size; simp; omega) _
theorem halz (v : World) : Below v.heap.size v (v.alloc (.cells #[Value.slice none 0 0, Value.int .i64 0, Value.int .i64 0] 28)) := (Below.refl _ v).alloc (Nat.le_refl _) _
theorem halz_size (v : World) : (v.alloc (.cells #[Value.slice none 0 0, Value.int .i64 0, Value.int .i64 0] 28)).heap.size = v.heap.size + 1 := by simp
theorem halz_lt (v : World) : v.heap.size < (v.alloc (.cells #[Value.slice none 0 0, Value.int .i64 0, Value.int .i64 0] 28)).heap.size := by simp
theorem neOf {z n x : Nat} (h : z < n) (hx : n ≤ x) : x ≠ z := by omega
theorem wb {a b : World} {g : Nat} {t : TypeId} {cs : Array Value} (hb : Below a.heap.size a b) (h : Whole a g t cs) : Whole b g t cs := (Mod.of_below hb []).whole h (by simp)
theorem Pl.hgz {g gm : Nat} {w v : World} {b r : Bg} {Bm : Option Addr} {cm n z : Nat} (h : Pl (fun x => x ≠ g ∧ x ≠ gm) g gm w v b r Bm cm n) (hz : z = v.heap.size) : Pl (fun x => (x ≠ g ∧ x ≠ gm) ∧ x ≠ z) g gm w v b r Bm cm n :=
  h.other (fun x hx hs => ⟨hs, by omega⟩) (fun h => h.1.1 rfl) (fun h => h.1.2 rfl)
theorem ltne {a n z : Nat} (h : a < n) (hz : n ≤ z) : a ≠ z := by omega
theorem Pl.hgv {g gm : Nat} {w v : World} {b r : Bg} {Bm : Option Addr} {cm n : Nat} (h : Pl (fun x => x ≠ g ∧ x ≠ gm) g gm w v b r Bm cm n) : Pl (fun x => (x ≠ g ∧ x ≠ gm) ∧ x ≠ v.heap.size) g gm w (v.alloc (.cells #[Value.slice none 0 0, Value.int .i64 0, Value.int .i64 0] 28)) b r Bm cm n := (h.hgz rfl).keep (halz v)
theorem data_hgv {g gm : Nat} {v : World} {A : Option Addr} {d : List UInt8} (h : Data (fun x => x ≠ g ∧ x ≠ gm) v A d) : Data (fun x => (x ≠ g ∧ x ≠ gm) ∧ x ≠ v.heap.size) (v.alloc (.cells #[Value.slice none 0 0, Value.int .i64 0, Value.int .i64 0] 28)) A d := (h.mono (fun x hx hs => ⟨hs, Nat.ne_of_lt hx⟩)).below (halz v)
theorem whole_of {S : Nat → Prop} {g gm : Nat} {w v : World} {b r : Bg} {Bm : Option Addr} {cm n : Nat} (h : Pl S g gm w v b r Bm cm n) (t : TypeId) (cs : Array Value) : Whole (v.alloc (.cells cs t)) v.heap.size t cs := Whole.new v t cs
theorem below_of {S : Nat → Prop} {g gm : Nat} {w v : World} {b r : Bg} {Bm : Option Addr} {cm n : Nat} (h : Pl S g gm w v b r Bm cm n) : Below v.heap.size v (v.alloc (.cells #[Value.slice none 0 0, Value.int .i64 0, Value.int .i64 0] 28)) := halz v
theorem set_keep {u : World} {z gm go : Nat} {u0 u1 u2 a0 a1 a2 a3 a4 a5 : Value} (h1 : gm ≠ z) (h2 : go ≠ z) (h : (u.cell? ⟨gm, 0, none⟩ = some a0 ∧ u.cell? ⟨gm, 1, none⟩ = some a1 ∧ u.cell? ⟨gm, 2, none⟩ = some a2) ∧ u.cell? ⟨go, 2, none⟩ = some a3 ∧ u.cell? ⟨go, 3, none⟩ = some a4 ∧ u.cell? ⟨go, 4, none⟩ = some a5) :
    ((((u.setCell ⟨z, 0, none⟩ u0).setCell ⟨z, 1, none⟩ u1).setCell ⟨z, 2, none⟩ u2).cell? ⟨gm, 0, none⟩ = some a0 ∧ (((u.setCell ⟨z, 0, none⟩ u0).setCell ⟨z, 1, none⟩ u1).setCell ⟨z, 2, none⟩ u2).cell? ⟨gm, 1, none⟩ = some a1 ∧ (((u.setCell ⟨z, 0, none⟩ u0).setCell ⟨z, 1, none⟩ u1).setCell ⟨z, 2, none⟩ u2).cell? ⟨gm, 2, none⟩ = some a2) ∧ (((u.setCell ⟨z, 0, none⟩ u0).setCell ⟨z, 1, none⟩ u1).setCell ⟨z, 2, none⟩ u2).cell? ⟨go, 2, none⟩ = some a3 ∧ (((u.setCell ⟨z, 0, none⟩ u0).setCell ⟨z, 1, none⟩ u1).setCell ⟨z, 2, none⟩ u2).cell? ⟨go, 3, none⟩ = some a4 ∧ (((u.setCell ⟨z, 0, none⟩ u0).setCell ⟨z, 1, none⟩ u1).setCell ⟨z, 2, none⟩ u2).cell? ⟨go, 4, none⟩ = some a5 :=
  ⟨⟨(far3 _ _ _ _ _ _ _ _ _ _ (.inl h1)).trans h.1.1, (far3 _ _ _ _ _ _ _ _ _ _ (.inl h1)).trans h.1.2.1, (far3 _ _ _ _ _ _ _ _ _ _ (.inl h1)).trans h.1.2.2⟩, (far3 _ _ _ _ _ _ _ _ _ _ (.inl h2)).trans h.2.1, (far3 _ _ _ _ _ _ _ _ _ _ (.inl h2)).trans h.2.2.1, (far3 _ _ _ _ _ _ _ _ _ _ (.inl h2)).trans h.2.2.2⟩
theorem Pl.hz {S : Nat → Prop} {g gm : Nat} {w v : World} {b r : Bg} {Bm : Option Addr} {cm n : Nat} (h : Pl S g gm w v b r Bm cm n) : v.heap.size ≠ g ∧ v.heap.size ≠ gm ∧ w.heap.size ≤ v.heap.size := by
  have h1 := h.bag.lt
  have h2 := h.blk.lt
  have h3 := h.below.size
  exact ⟨by omega, by omega, h3⟩
/-- What stands when the document's bag has taken a packet more, and nothing is assigned yet. -/
def Nxt (S : Nat → Prop) (g gm go : Nat) (w : World) (b : Bg) (Bm : Option Addr) (cm j : Nat) (kd kk : Int) (p : Pk) (B1 : Option Addr) (c1 : Nat) (s17 s18 : Value) (v : World) : Prop :=
  ∃ gz B7 c7, s17 = .pointer (some ⟨gz, 0, none⟩) ∧ s18 = .int .i64 (sentErr b p) ∧ Pl S g gm w v b b Bm cm j ∧ PksAt S v B7 (sent b p).ps ∧ ((sent b p).ps.length ≤ c7 ∧ c7 ≤ 9223372036854775807) ∧
    Whole v gz 28 (bag3 B7 (sent b p).ps.length c7 (sent b p).s (sent b p).q) ∧ Whole v go 33 #[.int .i64 kd, .int .i64 kk, .int .i64 p.frm, .int .i64 p.dst, .slice B1 p.d.length c1] ∧ Data (fun x => x < w.heap.size) v B1 p.d
theorem lawOwn_raw (p : Pk) (A : Option Addr) (c : Nat) (w : World) (hB : BytesAt w A p.d) (hl : p.d.length ≤ 140737488355328) :
    Calls Try.prog 18 #[.agg #[.int .i64 p.frm, .int .i64 p.dst, .slice A p.d.length c]] w fun e w' => ∃ A' c', e = .returned (.agg #[.int .i64 p.frm, .int .i64 p.dst, .slice A' p.d.length c']) ∧ Hid (w'.ownsRow w.heap.size 5 1 (.slice A' p.d.length c') p.d.length (By.u8s p.d)) ∧ Below w.heap.size w w' := lawOwn_any p A c w hB hl
theorem RefSend_raw {S : Nat → Prop} {w : World} {B : Option Addr} {b : Bg} {n : Nat} (h : PksAt S w B b.ps) (hs : Sound b n) (hn : n ≤ 4611686018427387904) (c : Nat) (hc : b.ps.length ≤ c ∧ c ≤ 9223372036854775807) (p : Pk) (A : Option Addr) (d : Nat) (hD : Data S w A p.d) (hS : ∀ x, w.heap.size ≤ x → S x) :
    Calls Try.prog 17 #[.agg #[.slice B b.ps.length c, .int .i64 b.s, .int .i64 b.q], .agg #[.int .i64 p.frm, .int .i64 p.dst, .slice A p.d.length d]] w fun e w' => ∃ B' c', e = .returned (.tuple #[.agg #[.slice B' (sent b p).ps.length c', .int .i64 (sent b p).s, .int .i64 (sent b p).q], .int .i64 (sentErr b p)]) ∧ Hid ((sent b p).ps.length ≤ c' ∧ c' ≤ 9223372036854775807) ∧ Hid (PksAt S w' B' (sent b p).ps) ∧ Below w.heap.size w w' := RefSend_any h hs hn c hc p A d hD hS
/-- What stands while the document's bag is asked. -/
structure Kp (S : Nat → Prop) (g gm go : Nat) (w : World) (b : Bg) (Bm : Option Addr) (cm j : Nat) (kd kk : Int) (p : Pk) (B1 : Option Addr) (c1 : Nat) (v : World) : Prop where
  pl : Pl S g gm w v b b Bm cm j
  op : Whole v go 33 #[.int .i64 kd, .int .i64 kk, .int .i64 p.frm, .int .i64 p.dst, .slice B1 p.d.length c1]
  bb : Data (fun x => x < w.heap.size) v B1 p.d
section
variable {S : Nat → Prop} {g gm go : Nat} {w v v' : World} {b : Bg} {Bm : Option Addr} {cm j : Nat} {kd kk : Int} {p : Pk} {B1 : Option Addr} {c1 : Nat}
theorem Kp.keep (h : Kp S g gm go w b Bm cm j kd kk p B1 c1 v) (hb : Below v.heap.size v v') : Kp S g gm go w b Bm cm j kd kk p B1 c1 v' :=
  ⟨h.pl.keep hb, (Mod.of_below hb []).whole h.op (by simp), h.bb.below hb⟩
theorem Kp.drew (h : Kp S g gm go w b Bm cm j kd kk p B1 c1 v) : Kp S g gm go w b Bm cm j kd kk p B1 c1 v.drew := h.keep (Below.drew (Below.refl _ v))
theorem Kp.hgz (h : Kp (fun x => x ≠ g ∧ x ≠ gm) g gm go w b Bm cm j kd kk p B1 c1 v) : Kp (fun x => (x ≠ g ∧ x ≠ gm) ∧ x ≠ v.heap.size) g gm go w b Bm cm j kd kk p B1 c1 (v.alloc (.cells #[Value.slice none 0 0, Value.int .i64 0, Value.int .i64 0] 28)) :=
  Kp.keep ⟨h.pl.hgz rfl, h.op, h.bb⟩ (halz v)
theorem Kp.fits (h : Kp S g gm go w b Bm cm j kd kk p B1 c1 v) : v.heap.size ≠ g ∧ v.heap.size ≠ gm ∧ v.heap.size ≠ go ∧ w.heap.size ≤ v.heap.size := by
  have h1 := h.pl.hz
  have h3 := h.op.lt
  exact ⟨h1.1, h1.2.1, by omega, h1.2.2⟩
theorem nxt_of {z : Nat} (h : Kp (fun x => (x ≠ g ∧ x ≠ gm) ∧ x ≠ z) g gm go w b Bm cm j kd kk p B1 c1 v) {cs : Array Value} (hz : Whole v z 28 cs) (hcs : cs = #[Value.slice none 0 0, Value.int .i64 0, Value.int .i64 0]) {B7 : Option Addr} {c7 : Nat} (hp : PksAt (fun x => (x ≠ g ∧ x ≠ gm) ∧ x ≠ z) v B7 (sent b p).ps) (hc : (sent b p).ps.length ≤ c7 ∧ c7 ≤ 9223372036854775807) (hzz : z ≠ g ∧ z ≠ gm ∧ z ≠ go ∧ w.heap.size ≤ z) :
    Nxt (fun x => x ≠ g ∧ x ≠ gm) g gm go w b Bm cm j kd kk p B1 c1 (.pointer (some ⟨z, 0, none⟩)) (.int .i64 (sentErr b p)) (((v.setCell ⟨z, 0, none⟩ (.slice B7 (sent b p).ps.length c7)).setCell ⟨z, 1, none⟩ (.int .i64 (sent b p).s)).setCell ⟨z, 2, none⟩ (.int .i64 (sent b p).q)) := by
  subst hcs
  have hm := mod3 v z 0 1 2 (.slice B7 (sent b p).ps.length c7) (.int .i64 (sent b p).s) (.int .i64 (sent b p).q)
  have hn : ∀ x ∈ [z], ¬ ((x ≠ g ∧ x ≠ gm) ∧ x ≠ z) := by intro x hx h2; exact h2.2 (List.mem_singleton.1 hx)
  have hb : BagAt (fun x => x ≠ g ∧ x ≠ gm) _ g b.ps b.s b.q := (h.pl.bag.mod (by simpa using hzz.1.symm) hm hn).mono (fun x _ hx => hx.1) (fun hx => hx.1 rfl)
  refine ⟨z, B7, c7, rfl, rfl, ⟨h.pl.sound, hb, h.pl.soundr, hm.whole h.pl.blk (by simpa using hzz.2.1.symm), h.pl.le, (h.pl.pks.mod hm hn).mono (fun x _ hx => hx.1), h.pl.far, fun hx => hx.2 rfl, h.pl.below.trans (hm.below h.pl.below.size (by intro x hx; rw [List.mem_singleton.1 hx]; omega))⟩, (hp.mod hm hn).mono (fun x _ hx => hx.1), hc, ((hz.store 0 _).store 1 _).store 2 _, hm.whole h.op (by simpa using hzz.2.2.1.symm), h.bb.mod hm (by intro x hx; rw [List.mem_singleton.1 hx]; omega)⟩
theorem nxt_new (h : Kp (fun x => x ≠ g ∧ x ≠ gm) g gm go w b Bm cm j kd kk p B1 c1 v) {B7 : Option Addr} {c7 : Nat} (hp : PksAt (fun x => x ≠ g ∧ x ≠ gm) v B7 (sent b p).ps) (hc : (sent b p).ps.length ≤ c7 ∧ c7 ≤ 9223372036854775807) :
    Nxt (fun x => x ≠ g ∧ x ≠ gm) g gm go w b Bm cm j kd kk p B1 c1 (.pointer (some ⟨v.heap.size, 0, none⟩)) (.int .i64 (sentErr b p)) (v.alloc (.cells #[.slice B7 (sent b p).ps.length c7, .int .i64 (sent b p).s, .int .i64 (sent b p).q] 28)) := by
  have hb := (Below.refl v.heap.size v).alloc (Nat.le_refl _) (.cells #[.slice B7 (sent b p).ps.length c7, .int .i64 (sent b p).s, .int .i64 (sent b p).q] 28)
  have h2 := h.keep hb
  exact ⟨_, B7, c7, rfl, rfl, h2.pl, hp.below hb, hc, Whole.new v _ _, h2.op, h2.bb⟩
theorem Pl.mod1 {r : Bg} {q n : Nat} (h : Pl S g gm w v b r Bm cm n) (hm : Mod [q] v v') (hq : ¬ S q) (hg : q ≠ g) (hgm : q ≠ gm) (hw : w.heap.size ≤ q) : Pl S g gm w v' b r Bm cm n := by
  have hn : ∀ x ∈ [q], ¬ S x := by intro x hx; rw [List.mem_singleton.1 hx]; exact hq
  exact ⟨h.sound, h.bag.mod (by simpa using hg.symm) hm hn, h.soundr, hm.whole h.blk (by simpa using hgm.symm), h.le, h.pks.mod hm hn, h.far, h.self, h.below.trans (hm.below h.below.size (by intro x hx; rw [List.mem_singleton.1 hx]; exact hw))⟩
end
theorem RefSame_raw (p : Pk) (A A' : Option Addr) (c c' : Nat) (w : World) (hA : BytesAt w A p.d) (hB : BytesAt w A' p.d) :
    Calls Try.prog 11 #[.agg #[.int .i64 p.frm, .int .i64 p.dst, .slice A p.d.length c], .agg #[.int .i64 p.frm, .int .i64 p.dst, .slice A' p.d.length c']] w fun e w' => e = .returned (.bool true) ∧ Below w.heap.size w w' := RefSame_self p A A' c c' w hA hB
theorem RefSame_none (w : World) : Calls Try.prog 11 #[.agg #[.int .i64 0, .int .i64 0, .slice none 0 0], .agg #[.int .i64 0, .int .i64 0, .slice none 0 0]] w fun e w' => e = .returned (.bool true) ∧ Below w.heap.size w w' :=
  RefSame_self ⟨0, 0, []⟩ none none 0 0 w (BytesAt.nil _ _) (BytesAt.nil _ _)
/-- Len, Sent and Lost, turned round. -/
theorem Len_t {S : Nat → Prop} {w : World} {g : Nat} {ps : List Pk} {s q : Int} (h : BagAt S w g ps s q) : Calls Try.prog 20 #[.pointer (some ⟨g, 0, none⟩)] w fun e w' => e = .returned (.int .i64 (ps.length : Int)) ∧ w' = w := (Len_any h).mono fun e w' k => ⟨k.1, k.2.symm⟩
theorem Sent_t {S : Nat → Prop} {w : World} {g : Nat} {ps : List Pk} {s q : Int} (h : BagAt S w g ps s q) : Calls Try.prog 21 #[.pointer (some ⟨g, 0, none⟩)] w fun e w' => e = .returned (.int .i64 s) ∧ w' = w := (Sent_any h).mono fun e w' k => ⟨k.1, k.2.symm⟩
theorem Lost_t {S : Nat → Prop} {w : World} {g : Nat} {ps : List Pk} {s q : Int} (h : BagAt S w g ps s q) : Calls Try.prog 22 #[.pointer (some ⟨g, 0, none⟩)] w fun e w' => e = .returned (.int .i64 q) ∧ w' = w := (Lost_any h).mono fun e w' k => ⟨k.1, k.2.symm⟩
theorem cat_same (l m : List UInt8) : ((⟨l.toArray⟩ : ByteArray) ++ ⟨m.toArray⟩) = ⟨(l ++ m).toArray⟩ := WideShapes.bytes_inj (by rw [ByteArray.data_append]; simp)
theorem cat_no (l : List UInt8) : (!l ++ [91, 92] == ((⟨l.toArray⟩ : ByteArray) ++ ⟨#[91, 92]⟩).toList) = false := by
  have e := cat_same l [91, 92]
  rw [show (⟨#[91, 92]⟩ : ByteArray) = ⟨([91, 92] : List UInt8).toArray⟩ from rfl, e]
  simp
theorem own_full {w : World} {base n m : Nat} {ys : List Value} {v : Value} (h : w.ownsRow base 5 1 v (n + (m + 1)) ys) : ∃ g cap, v = .slice (some ⟨g, 0, none⟩) (n + (m + 1)) cap ∧ base ≤ g ∧ g < w.heap.size ∧ n + (m + 1) ≤ cap ∧ cap ≤ 9223372036854775807 := by
  rcases h.2 with ⟨_, h⟩ | ⟨g, cap, cur, rfl, hb, hh, h1, h2, _⟩
  · omega
  · exact ⟨g, cap, rfl, hb, (Array.getElem?_eq_some_iff.1 hh).1, h1, by unfold maxLen at h2; omega⟩
theorem rowb_cell {w : World} {B n c g : Nat} {xs : List Value} (h : w.ownsRow B 5 1 (.slice (some ⟨g, 0, none⟩) n c) n xs) {q : Nat} {x : Value} (hq : xs[q]? = some x) : w.cell? ⟨g, q, none⟩ = some x := by
  have := h.cells (g := g) rfl q x hq
  rw [Addr.add_lit, Nat.zero_add] at this
  exact this
theorem rowb_frozen {B n c g : Nat} {w : World} {xs : List Value} (h : w.ownsRow B 5 1 (.slice (some ⟨g, 0, none⟩) n c) n xs) (i : Nat) : w.frozen? ⟨g, i, none⟩ = false := by
  rcases h.2 with ⟨e, _⟩ | ⟨g', cap, cur, e, _, hh, _⟩
  · cases e
  · injection e with e1 _ _
    injection e1 with e1
    injection e1 with e1
    subst e1
    simp [World.frozen?, hh]
theorem far_f {f g n c : Nat} (h : f ≠ g) : ∀ k, (Value.slice (some ⟨f, 0, none⟩) n c).ownBlock = some k → k ∉ [g] := fun k hk hx => by
  have e : f = k := by simpa [Value.ownBlock] using hk
  rw [List.mem_singleton.1 hx] at e
  exact h e
end Go.Proofs.Ytnbfdgccaacdiaa.Own
