/- The walk of BagPlays: it answers true, and old memory stands. -/
import Derived.Test.YtnbfdgccaacdiaaRows
import Derived.Test.YtnbfdgccaacdiaaBagW13
import Derived.Test.YtnbfdgccaacdiaaLawBare
import Derived.JoinedCond
import Derived.OpenShut
import Derived.Deep.CutBlock
namespace Go.Proofs.Ytnbfdgccaacdiaa.lawBagPlays
open Go Go.RowKit Go.ChangeShapes Go.WideShapes Go.ChangeAt
set_option linter.unusedVariables false
set_option linter.unusedSimpArgs false
open By (BytesAt)
/-- How the bag and the document's bag stand. -/
structure Pl (S : Nat → Prop) (g gm : Nat) (w v : World) (b r : Bg) (Bm : Option Addr) (cm n : Nat) : Prop where
  sound : Sound b n
  bag : BagAt S v g b.ps b.s b.q
  soundr : Sound r n
  blk : Whole v gm 28 (bag3 Bm r.ps.length cm r.s r.q)
  le : r.ps.length ≤ cm ∧ cm ≤ 9223372036854775807
  pks : PksAt S v Bm r.ps
  far : w.heap.size ≤ g ∧ g < gm
  self : ¬ S gm
  below : Below w.heap.size w v
section
variable {S S' : Nat → Prop} {g gm : Nat} {w v v' : World} {b b' r r' : Bg} {Bm B' : Option Addr} {cm c' n n' : Nat}
theorem Pl.keep (h : Pl S g gm w v b r Bm cm n) (hb : Below v.heap.size v v') : Pl S g gm w v' b r Bm cm n :=
  ⟨h.sound, h.bag.below hb, h.soundr, (Mod.of_below hb []).whole h.blk (by simp), h.le, h.pks.below hb, h.far, h.self, below_on h.below hb⟩
theorem Pl.drew (h : Pl S g gm w v b r Bm cm n) : Pl S g gm w v.drew b r Bm cm n := h.keep (Below.drew (Below.refl _ v))
theorem Pl.cells (h : Pl S g gm w v b r Bm cm n) : v.cell? ⟨gm, 0, none⟩ = some (.slice Bm r.ps.length cm) ∧ v.cell? ⟨gm, 1, none⟩ = some (.int .i64 r.s) ∧ v.cell? ⟨gm, 2, none⟩ = some (.int .i64 r.q) := ⟨h.blk.cell 0, h.blk.cell 1, h.blk.cell 2⟩
theorem Pl.more (h : Pl S g gm w v b r Bm cm n) (hn : n ≤ n') : Pl S g gm w v b r Bm cm n' := ⟨h.sound.mono hn, h.bag, h.soundr.mono hn, h.blk, h.le, h.pks, h.far, h.self, h.below⟩
theorem Pl.other (h : Pl S g gm w v b r Bm cm n) (hS : ∀ x, x < v.heap.size → S x → S' x) (hg : ¬ S' g) (hm : ¬ S' gm) : Pl S' g gm w v b r Bm cm n :=
  ⟨h.sound, h.bag.mono hS hg, h.soundr, h.blk, h.le, h.pks.mono hS, h.far, hm, h.below⟩
theorem Pl.put (h : Pl S g gm w v b r Bm cm n) (hp : PksAt S v B' r'.ps) (hl : r'.ps.length ≤ c' ∧ c' ≤ 9223372036854775807) (hs : Sound r' n) :
    Pl S g gm w (((v.setCell ⟨gm, 0, none⟩ (.slice B' r'.ps.length c')).setCell ⟨gm, 1, none⟩ (.int .i64 r'.s)).setCell ⟨gm, 2, none⟩ (.int .i64 r'.q)) b r' B' c' n := by
  have hm := mod3 v gm 0 1 2 (.slice B' r'.ps.length c') (.int .i64 r'.s) (.int .i64 r'.q)
  have hn : ∀ x ∈ [gm], ¬ S x := by intro x hx; rw [List.mem_singleton.1 hx]; exact h.self
  have hf := h.far
  exact ⟨h.sound, h.bag.mod (by simp; omega) hm hn, hs, (((h.blk.store 0 _).store 1 _).store 2 _), hl, hp.mod hm hn, hf, h.self, h.below.trans (hm.below h.below.size (by intro x hx; rw [List.mem_singleton.1 hx]; omega))⟩
theorem Pl.bagged (h : Pl S g gm w v b r Bm cm n) (hb : BagAt S v' g b'.ps b'.s b'.q) (hm : Mod [g] v v') (hs : Sound b' n) : Pl S g gm w v' b' r Bm cm n := by
  have hf := h.far
  have hn : ∀ x ∈ [g], ¬ S x := by intro x hx; rw [List.mem_singleton.1 hx]; exact h.bag.self
  exact ⟨hs, hb, h.soundr, hm.whole h.blk (by simp; omega), h.le, h.pks.mod hm hn, hf, h.self, h.below.trans (hm.below h.below.size (by intro x hx; rw [List.mem_singleton.1 hx]; omega))⟩
theorem Pl.hS (h : Pl S g gm w v b r Bm cm n) (x : Nat) (hx : v.heap.size ≤ x) : x ≠ g ∧ x ≠ gm := by
  have h1 := h.bag.lt
  have h2 := h.blk.lt
  exact ⟨by omega, by omega⟩
end
theorem pl0 {w w1 w2 : World} (hX : Below w.heap.size w w1) (hw : w2 = w1.alloc (.cells bag0 56)) : Pl (fun x => x ≠ w1.heap.size ∧ x ≠ w2.heap.size) w1.heap.size w2.heap.size w (w2.alloc (.cells bagZ 28)) ⟨[], 0, 0⟩ ⟨[], 0, 0⟩ none 0 0 := by
  subst hw
  refine ⟨sound0 0, ?_, sound0 0, Whole.new _ _ _, ⟨Nat.le_refl _, by decide⟩, PksAt.nil, ⟨hX.size, by simp⟩, fun h => h.2 rfl, ?_⟩
  · exact (bag0_at w1 (S := fun x => x ≠ w1.heap.size ∧ x ≠ (w1.alloc (.cells bag0 56)).heap.size) (fun h => h.1 rfl)).below ((Below.refl _ _).alloc (Nat.le_refl _) _)
  · exact (hX.alloc hX.size _).alloc (by have := hX.size; simp; omega) _
theorem halz (v : World) : Below v.heap.size v (v.alloc (.cells #[Value.slice none 0 0, Value.int .i64 0, Value.int .i64 0] 28)) := (Below.refl _ v).alloc (Nat.le_refl _) _
theorem halz_size (v : World) : (v.alloc (.cells #[Value.slice none 0 0, Value.int .i64 0, Value.int .i64 0] 28)).heap.size = v.heap.size + 1 := by simp
theorem halz_lt (v : World) : v.heap.size < (v.alloc (.cells #[Value.slice none 0 0, Value.int .i64 0, Value.int .i64 0] 28)).heap.size := by simp
theorem neOf {z n x : Nat} (h : z < n) (hx : n ≤ x) : x ≠ z := by omega
theorem wb {a b : World} {g : Nat} {t : TypeId} {cs : Array Value} (hb : Below a.heap.size a b) (h : Whole a g t cs) : Whole b g t cs := (Mod.of_below hb []).whole h (by simp)
theorem Pl.hgz {g gm : Nat} {w v : World} {b r : Bg} {Bm : Option Addr} {cm n z : Nat} (h : Pl (fun x => x ≠ g ∧ x ≠ gm) g gm w v b r Bm cm n) (hz : z = v.heap.size) : Pl (fun x => (x ≠ g ∧ x ≠ gm) ∧ x ≠ z) g gm w v b r Bm cm n :=
  h.other (fun x hx hs => ⟨hs, by omega⟩) (fun h => h.1.1 rfl) (fun h => h.1.2 rfl)
theorem ltne {a n z : Nat} (h : a < n) (hz : n ≤ z) : a ≠ z := by omega
theorem Pl.hgv {g gm : Nat} {w v : World} {b r : Bg} {Bm : Option Addr} {cm n : Nat} (h : Pl (fun x => x ≠ g ∧ x ≠ gm) g gm w v b r Bm cm n) : Pl (fun x => (x ≠ g ∧ x ≠ gm) ∧ x ≠ v.heap.size) g gm w (v.alloc (.cells #[Value.slice none 0 0, Value.int .i64 0, Value.int .i64 0] 28)) b r Bm cm n := (h.hgz rfl).keep (halz v)
theorem data_hgv {g gm : Nat} {v : World} {A : Option Addr} {d : List UInt8} (h : Data (fun x => x ≠ g ∧ x ≠ gm) v A d) : Data (fun x => (x ≠ g ∧ x ≠ gm) ∧ x ≠ v.heap.size) (v.alloc (.cells #[Value.slice none 0 0, Value.int .i64 0, Value.int .i64 0] 28)) A d := (h.mono (fun x hx hs => ⟨hs, Nat.ne_of_lt hx⟩)).below (halz v)
theorem whole_of {S : Nat → Prop} {g gm : Nat} {w v : World} {b r : Bg} {Bm : Option Addr} {cm n : Nat} (h : Pl S g gm w v b r Bm cm n) (t : TypeId) (cs : Array Value) : Whole (v.alloc (.cells cs t)) v.heap.size t cs := Whole.new v t cs
theorem below_of {S : Nat → Prop} {g gm : Nat} {w v : World} {b r : Bg} {Bm : Option Addr} {cm n : Nat} (h : Pl S g gm w v b r Bm cm n) : Below v.heap.size v (v.alloc (.cells #[Value.slice none 0 0, Value.int .i64 0, Value.int .i64 0] 28)) := halz v
theorem set_keep {u : World} {z gm go : Nat} {u0 u1 u2 a0 a1 a2 a3 a4 a5 : Value} (h1 : gm ≠ z) (h2 : go ≠ z) (h : (u.cell? ⟨gm, 0, none⟩ = some a0 ∧ u.cell? ⟨gm, 1, none⟩ = some a1 ∧ u.cell? ⟨gm, 2, none⟩ = some a2) ∧ u.cell? ⟨go, 2, none⟩ = some a3 ∧ u.cell? ⟨go, 3, none⟩ = some a4 ∧ u.cell? ⟨go, 4, none⟩ = some a5) :
    ((((u.setCell ⟨z, 0, none⟩ u0).setCell ⟨z, 1, none⟩ u1).setCell ⟨z, 2, none⟩ u2).cell? ⟨gm, 0, none⟩ = some a0 ∧ (((u.setCell ⟨z, 0, none⟩ u0).setCell ⟨z, 1, none⟩ u1).setCell ⟨z, 2, none⟩ u2).cell? ⟨gm, 1, none⟩ = some a1 ∧ (((u.setCell ⟨z, 0, none⟩ u0).setCell ⟨z, 1, none⟩ u1).setCell ⟨z, 2, none⟩ u2).cell? ⟨gm, 2, none⟩ = some a2) ∧ (((u.setCell ⟨z, 0, none⟩ u0).setCell ⟨z, 1, none⟩ u1).setCell ⟨z, 2, none⟩ u2).cell? ⟨go, 2, none⟩ = some a3 ∧ (((u.setCell ⟨z, 0, none⟩ u0).setCell ⟨z, 1, none⟩ u1).setCell ⟨z, 2, none⟩ u2).cell? ⟨go, 3, none⟩ = some a4 ∧ (((u.setCell ⟨z, 0, none⟩ u0).setCell ⟨z, 1, none⟩ u1).setCell ⟨z, 2, none⟩ u2).cell? ⟨go, 4, none⟩ = some a5 :=
  ⟨⟨(far3 _ _ _ _ _ _ _ _ _ _ (.inl h1)).trans h.1.1, (far3 _ _ _ _ _ _ _ _ _ _ (.inl h1)).trans h.1.2.1, (far3 _ _ _ _ _ _ _ _ _ _ (.inl h1)).trans h.1.2.2⟩, (far3 _ _ _ _ _ _ _ _ _ _ (.inl h2)).trans h.2.1, (far3 _ _ _ _ _ _ _ _ _ _ (.inl h2)).trans h.2.2.1, (far3 _ _ _ _ _ _ _ _ _ _ (.inl h2)).trans h.2.2.2⟩
theorem Pl.hz {S : Nat → Prop} {g gm : Nat} {w v : World} {b r : Bg} {Bm : Option Addr} {cm n : Nat} (h : Pl S g gm w v b r Bm cm n) : v.heap.size ≠ g ∧ v.heap.size ≠ gm ∧ w.heap.size ≤ v.heap.size := by
  have h1 := h.bag.lt
  have h2 := h.blk.lt
  have h3 := h.below.size
  exact ⟨by omega, by omega, h3⟩
/-- What stands when the document's bag has taken a packet more, and nothing is assigned yet. -/
def Nxt (S : Nat → Prop) (g gm go : Nat) (w : World) (b : Bg) (Bm : Option Addr) (cm j : Nat) (kd kk : Int) (p : Pk) (B1 : Option Addr) (c1 : Nat) (s17 s18 : Value) (v : World) : Prop :=
  ∃ gz B7 c7, s17 = .pointer (some ⟨gz, 0, none⟩) ∧ s18 = .int .i64 (sentErr b p) ∧ Pl S g gm w v b b Bm cm j ∧ PksAt S v B7 (sent b p).ps ∧ ((sent b p).ps.length ≤ c7 ∧ c7 ≤ 9223372036854775807) ∧
    Whole v gz 28 (bag3 B7 (sent b p).ps.length c7 (sent b p).s (sent b p).q) ∧ Whole v go 33 #[.int .i64 kd, .int .i64 kk, .int .i64 p.frm, .int .i64 p.dst, .slice B1 p.d.length c1] ∧ Data (fun x => x < w.heap.size) v B1 p.d
theorem lawOwn_raw (p : Pk) (A : Option Addr) (c : Nat) (w : World) (hB : BytesAt w A p.d) (hl : p.d.length ≤ 140737488355328) :
    Calls Try.prog 18 #[.agg #[.int .i64 p.frm, .int .i64 p.dst, .slice A p.d.length c]] w fun e w' => ∃ A' c', e = .returned (.agg #[.int .i64 p.frm, .int .i64 p.dst, .slice A' p.d.length c']) ∧ Hid (w'.ownsRow w.heap.size 5 1 (.slice A' p.d.length c') p.d.length (By.u8s p.d)) ∧ Below w.heap.size w w' := lawOwn_any p A c w hB hl
theorem RefSend_raw {S : Nat → Prop} {w : World} {B : Option Addr} {b : Bg} {n : Nat} (h : PksAt S w B b.ps) (hs : Sound b n) (hn : n ≤ 4611686018427387904) (c : Nat) (hc : b.ps.length ≤ c ∧ c ≤ 9223372036854775807) (p : Pk) (A : Option Addr) (d : Nat) (hD : Data S w A p.d) (hS : ∀ x, w.heap.size ≤ x → S x) :
    Calls Try.prog 17 #[.agg #[.slice B b.ps.length c, .int .i64 b.s, .int .i64 b.q], .agg #[.int .i64 p.frm, .int .i64 p.dst, .slice A p.d.length d]] w fun e w' => ∃ B' c', e = .returned (.tuple #[.agg #[.slice B' (sent b p).ps.length c', .int .i64 (sent b p).s, .int .i64 (sent b p).q], .int .i64 (sentErr b p)]) ∧ Hid ((sent b p).ps.length ≤ c' ∧ c' ≤ 9223372036854775807) ∧ Hid (PksAt S w' B' (sent b p).ps) ∧ Below w.heap.size w w' := RefSend_any h hs hn c hc p A d hD hS
/-- What stands while the document's bag is asked. -/
structure Kp (S : Nat → Prop) (g gm go : Nat) (w : World) (b : Bg) (Bm : Option Addr) (cm j : Nat) (kd kk : Int) (p : Pk) (B1 : Option Addr) (c1 : Nat) (v : World) : Prop where
  pl : Pl S g gm w v b b Bm cm j
  op : Whole v go 33 #[.int .i64 kd, .int .i64 kk, .int .i64 p.frm, .int .i64 p.dst, .slice B1 p.d.length c1]
  bb : Data (fun x => x < w.heap.size) v B1 p.d
section
variable {S : Nat → Prop} {g gm go : Nat} {w v v' : World} {b : Bg} {Bm : Option Addr} {cm j : Nat} {kd kk : Int} {p : Pk} {B1 : Option Addr} {c1 : Nat}
theorem Kp.keep (h : Kp S g gm go w b Bm cm j kd kk p B1 c1 v) (hb : Below v.heap.size v v') : Kp S g gm go w b Bm cm j kd kk p B1 c1 v' :=
  ⟨h.pl.keep hb, (Mod.of_below hb []).whole h.op (by simp), h.bb.below hb⟩
theorem Kp.drew (h : Kp S g gm go w b Bm cm j kd kk p B1 c1 v) : Kp S g gm go w b Bm cm j kd kk p B1 c1 v.drew := h.keep (Below.drew (Below.refl _ v))
theorem Kp.hgz (h : Kp (fun x => x ≠ g ∧ x ≠ gm) g gm go w b Bm cm j kd kk p B1 c1 v) : Kp (fun x => (x ≠ g ∧ x ≠ gm) ∧ x ≠ v.heap.size) g gm go w b Bm cm j kd kk p B1 c1 (v.alloc (.cells #[Value.slice none 0 0, Value.int .i64 0, Value.int .i64 0] 28)) :=
  Kp.keep ⟨h.pl.hgz rfl, h.op, h.bb⟩ (halz v)
theorem Kp.fits (h : Kp S g gm go w b Bm cm j kd kk p B1 c1 v) : v.heap.size ≠ g ∧ v.heap.size ≠ gm ∧ v.heap.size ≠ go ∧ w.heap.size ≤ v.heap.size := by
  have h1 := h.pl.hz
  have h3 := h.op.lt
  exact ⟨h1.1, h1.2.1, by omega, h1.2.2⟩
theorem nxt_of {z : Nat} (h : Kp (fun x => (x ≠ g ∧ x ≠ gm) ∧ x ≠ z) g gm go w b Bm cm j kd kk p B1 c1 v) {cs : Array Value} (hz : Whole v z 28 cs) (hcs : cs = #[Value.slice none 0 0, Value.int .i64 0, Value.int .i64 0]) {B7 : Option Addr} {c7 : Nat} (hp : PksAt (fun x => (x ≠ g ∧ x ≠ gm) ∧ x ≠ z) v B7 (sent b p).ps) (hc : (sent b p).ps.length ≤ c7 ∧ c7 ≤ 9223372036854775807) (hzz : z ≠ g ∧ z ≠ gm ∧ z ≠ go ∧ w.heap.size ≤ z) :
    Nxt (fun x => x ≠ g ∧ x ≠ gm) g gm go w b Bm cm j kd kk p B1 c1 (.pointer (some ⟨z, 0, none⟩)) (.int .i64 (sentErr b p)) (((v.setCell ⟨z, 0, none⟩ (.slice B7 (sent b p).ps.length c7)).setCell ⟨z, 1, none⟩ (.int .i64 (sent b p).s)).setCell ⟨z, 2, none⟩ (.int .i64 (sent b p).q)) := by
  subst hcs
  have hm := mod3 v z 0 1 2 (.slice B7 (sent b p).ps.length c7) (.int .i64 (sent b p).s) (.int .i64 (sent b p).q)
  have hn : ∀ x ∈ [z], ¬ ((x ≠ g ∧ x ≠ gm) ∧ x ≠ z) := by intro x hx h2; exact h2.2 (List.mem_singleton.1 hx)
  have hb : BagAt (fun x => x ≠ g ∧ x ≠ gm) _ g b.ps b.s b.q := (h.pl.bag.mod (by simpa using hzz.1.symm) hm hn).mono (fun x _ hx => hx.1) (fun hx => hx.1 rfl)
  refine ⟨z, B7, c7, rfl, rfl, ⟨h.pl.sound, hb, h.pl.soundr, hm.whole h.pl.blk (by simpa using hzz.2.1.symm), h.pl.le, (h.pl.pks.mod hm hn).mono (fun x _ hx => hx.1), h.pl.far, fun hx => hx.2 rfl, h.pl.below.trans (hm.below h.pl.below.size (by intro x hx; rw [List.mem_singleton.1 hx]; omega))⟩, (hp.mod hm hn).mono (fun x _ hx => hx.1), hc, ((hz.store 0 _).store 1 _).store 2 _, hm.whole h.op (by simpa using hzz.2.2.1.symm), h.bb.mod hm (by intro x hx; rw [List.mem_singleton.1 hx]; omega)⟩
theorem nxt_new (h : Kp (fun x => x ≠ g ∧ x ≠ gm) g gm go w b Bm cm j kd kk p B1 c1 v) {B7 : Option Addr} {c7 : Nat} (hp : PksAt (fun x => x ≠ g ∧ x ≠ gm) v B7 (sent b p).ps) (hc : (sent b p).ps.length ≤ c7 ∧ c7 ≤ 9223372036854775807) :
    Nxt (fun x => x ≠ g ∧ x ≠ gm) g gm go w b Bm cm j kd kk p B1 c1 (.pointer (some ⟨v.heap.size, 0, none⟩)) (.int .i64 (sentErr b p)) (v.alloc (.cells #[.slice B7 (sent b p).ps.length c7, .int .i64 (sent b p).s, .int .i64 (sent b p).q] 28)) := by
  have hb := (Below.refl v.heap.size v).alloc (Nat.le_refl _) (.cells #[.slice B7 (sent b p).ps.length c7, .int .i64 (sent b p).s, .int .i64 (sent b p).q] 28)
  have h2 := h.keep hb
  exact ⟨_, B7, c7, rfl, rfl, h2.pl, hp.below hb, hc, Whole.new v _ _, h2.op, h2.bb⟩
theorem Pl.mod1 {r : Bg} {q n : Nat} (h : Pl S g gm w v b r Bm cm n) (hm : Mod [q] v v') (hq : ¬ S q) (hg : q ≠ g) (hgm : q ≠ gm) (hw : w.heap.size ≤ q) : Pl S g gm w v' b r Bm cm n := by
  have hn : ∀ x ∈ [q], ¬ S x := by intro x hx; rw [List.mem_singleton.1 hx]; exact hq
  exact ⟨h.sound, h.bag.mod (by simpa using hg.symm) hm hn, h.soundr, hm.whole h.blk (by simpa using hgm.symm), h.le, h.pks.mod hm hn, h.far, h.self, h.below.trans (hm.below h.below.size (by intro x hx; rw [List.mem_singleton.1 hx]; exact hw))⟩
end
theorem RefSame_raw (p : Pk) (A A' : Option Addr) (c c' : Nat) (w : World) (hA : BytesAt w A p.d) (hB : BytesAt w A' p.d) :
    Calls Try.prog 11 #[.agg #[.int .i64 p.frm, .int .i64 p.dst, .slice A p.d.length c], .agg #[.int .i64 p.frm, .int .i64 p.dst, .slice A' p.d.length c']] w fun e w' => e = .returned (.bool true) ∧ Below w.heap.size w w' := RefSame_self p A A' c c' w hA hB
theorem RefSame_none (w : World) : Calls Try.prog 11 #[.agg #[.int .i64 0, .int .i64 0, .slice none 0 0], .agg #[.int .i64 0, .int .i64 0, .slice none 0 0]] w fun e w' => e = .returned (.bool true) ∧ Below w.heap.size w w' :=
  RefSame_self ⟨0, 0, []⟩ none none 0 0 w (BytesAt.nil _ _) (BytesAt.nil _ _)
/-- Len, Sent and Lost, turned round. -/
theorem Len_t {S : Nat → Prop} {w : World} {g : Nat} {ps : List Pk} {s q : Int} (h : BagAt S w g ps s q) : Calls Try.prog 20 #[.pointer (some ⟨g, 0, none⟩)] w fun e w' => e = .returned (.int .i64 (ps.length : Int)) ∧ w' = w := (Len_any h).mono fun e w' k => ⟨k.1, k.2.symm⟩
theorem Sent_t {S : Nat → Prop} {w : World} {g : Nat} {ps : List Pk} {s q : Int} (h : BagAt S w g ps s q) : Calls Try.prog 21 #[.pointer (some ⟨g, 0, none⟩)] w fun e w' => e = .returned (.int .i64 s) ∧ w' = w := (Sent_any h).mono fun e w' k => ⟨k.1, k.2.symm⟩
theorem Lost_t {S : Nat → Prop} {w : World} {g : Nat} {ps : List Pk} {s q : Int} (h : BagAt S w g ps s q) : Calls Try.prog 22 #[.pointer (some ⟨g, 0, none⟩)] w fun e w' => e = .returned (.int .i64 q) ∧ w' = w := (Lost_any h).mono fun e w' k => ⟨k.1, k.2.symm⟩
/-- What stands when a call has been played. -/
def Nx (g gm : Nat) (w : World) (n : Nat) (v : World) : Prop := ∃ (b : Bg) (B : Option Addr) (c : Nat), Pl (fun x => x ≠ g ∧ x ≠ gm) g gm w v b b B c n
set_option maxRecDepth 100000 in
set_option maxHeartbeats 100000000 in
theorem walk (A : Option Addr) (c : Nat) (l : List Op) (w : World) (hO : OpsAt w A l) (hc : l.length ≤ c) (hm : c ≤ 140737488351232) :
    Calls Try.prog 3 #[.slice A l.length c] w (LK.True_ w) := by
  have HO := Lib.hid hO
  clear hO
  go_enter Try.func3, Try.ntmps3
  go_wp2_with fail
  refine (awake_any w).mono ?_
  rintro e w1 ⟨rfl, hb⟩
  have HX1 := Lib.hid hb
  clear hb
  go_wp2_with fail
  refine (New_any w1).mono ?_
  rintro e w2 ⟨rfl, hw2⟩
  have HPL := Lib.hid (pl0 HX1.out hw2)
  have HG := Lib.hid (show w1.heap.size < w2.heap.size by rw [hw2]; simp)
  clear hw2
  unfold bagZ at HPL
  go_upto_region 5 with (fail)
  generalize w2.alloc (.cells _ 28) = w3 at HPL ⊢
  go_wp2_with fail
  go_loopw [25] (fun i wx => ∃ (j : Nat) (b : Bg) (Bm : Option Addr) (cm : Nat), i = .int .i64 (j : Int) ∧ j ≤ l.length ∧ Pl (fun x => x ≠ w1.heap.size ∧ x ≠ w2.heap.size) w1.heap.size w2.heap.size w wx b b Bm cm j) (fun i _ => l.length - (intOf i).toNat)
  case atStart => exact ⟨0, _, _, _, rfl, by omega, HPL.out⟩
  case round =>
    obtain ⟨j, b, Bm, cm, rfl, hj, hP⟩ := hrel
    have HP := Lib.hid hP
    clear hP
    by_cases hlt : j < l.length
    · obtain ⟨bo, oo, e1, hbo, hxs⟩ := HO.out (by omega)
      subst e1
      obtain ⟨B1, c1, t0, t1, t2, t3, t4, hB1, hl1⟩ := hxs j l[j] (List.getElem?_eq_getElem hlt)
      have a0 := (HP.out.below.cell (p := ⟨bo, oo + j * 5, none⟩) hbo).trans t0
      have a1 := (HP.out.below.cell (p := ⟨bo, oo + j * 5 + 1, none⟩) hbo).trans t1
      have a2 := (HP.out.below.cell (p := ⟨bo, oo + j * 5 + 2, none⟩) hbo).trans t2
      have a3 := (HP.out.below.cell (p := ⟨bo, oo + j * 5 + 3, none⟩) hbo).trans t3
      have a4 := (HP.out.below.cell (p := ⟨bo, oo + j * 5 + 4, none⟩) hbo).trans t4
      have HB1 := Lib.hid (And.intro ((Data.arg hB1 (S := fun x => x < w.heap.size) (fun x hx => hx)).below HP.out.below) hl1)
      clear hxs hbo hB1 hl1 t0 t1 t2 t3 t4
      generalize l[j] = o at a0 a1 a2 a3 a4 HB1
      obtain ⟨kd, kk, p⟩ := o
      have hal := (Below.refl _ wr).alloc (Nat.le_refl _) (.cells #[.int .i64 kd, .int .i64 kk, .int .i64 p.frm, .int .i64 p.dst, .slice B1 p.d.length c1] 33)
      have HP4 := Lib.hid (HP.out.keep hal)
      have HOW := Lib.hid (Whole.new wr 33 #[.int .i64 kd, .int .i64 kk, .int .i64 p.frm, .int .i64 p.dst, .slice B1 p.d.length c1])
      have HB4 := Lib.hid (HB1.out.1.below hal)
      have HL1 := Lib.hid (show p.d.length ≤ 140737488351232 from HB1.out.2)
      have HNE := Lib.hid (show ¬ w2.heap.size = wr.heap.size by have := HP.out.blk.lt; omega)
      have HGX := Lib.hid (show wr.heap.size ≠ w1.heap.size by have := HP.out.bag.lt; omega)
      clear hal
      go_upto_region 9 with (fail)
      clear a0 a1 a2 a3 a4
      generalize wr.alloc (.cells #[.int .i64 kd, .int .i64 kk, .int .i64 p.frm, .int .i64 p.dst, .slice B1 p.d.length c1] 33) = w4 at HP4 HOW HB4 ⊢
      generalize wr.heap.size = go at HOW HNE HGX ⊢
      have o0 : w4.cell? ⟨go, 0, none⟩ = some (.int .i64 kd) := HOW.out.cell 0
      go_upto_block 2 with (fail)
      clear o0
      go_cut [7, 8, 9, 10, 11, 12, 13, 14, 15, 16, 17, 18] (fun s t8 t9 t10 t11 t12 t13 t14 t15 t16 t17 t18 wx => s = .bool true ∧ Nx w1.heap.size w2.heap.size w (j + 1) wx)
      case first =>
        by_cases hk4 : kd = 4
        · subst hk4
          as_aux_lemma =>
            -- BEGIN
            have o0 : w4.cell? ⟨go, 0, none⟩ = some (.int .i64 4) := HOW.out.cell 0
            have o1 : w4.cell? ⟨go, 1, none⟩ = some (.int .i64 kk) := HOW.out.cell 1
            obtain ⟨m0, m1, m2⟩ := HP4.out.cells
            go_wp2_with fail
            clear o0 o1 m0 m1 m2
            by_cases hk : kk < 0 ∨ (b.ps.length : Int) ≤ kk
            · refine (RefDouble_gone b.ps.length cm b.s b.q hk w4).mono ?_
              rintro e w5 ⟨rfl, hb⟩
              have HP5 := Lib.hid (HP4.out.keep hb)
              have HO5 := Lib.hid ((Mod.of_below hb []).whole HOW.out (by simp))
              have HR5 := Lib.hid HP5.out.pks
              have HL5 := Lib.hid HP5.out.le
              have HS5 := Lib.hid HP5.out.soundr
              clear hb
              have hq := (Below.refl _ w5).alloc (Nat.le_refl _) (.cells (bag3 Bm b.ps.length cm b.s b.q) 28)
              have HP6 := Lib.hid (HP5.out.keep hq)
              have HQ6 := Lib.hid (Whole.new w5 28 (bag3 Bm b.ps.length cm b.s b.q))
              have HR6 := Lib.hid (HR5.out.below hq)
              have HO6 := Lib.hid ((Mod.of_below hq []).whole HO5.out (by simp))
              clear hq
              unfold bag3
              go_upto_region 28 with (fail)
              rw [show (#[Value.slice Bm b.ps.length cm, Value.int .i64 b.s, Value.int .i64 b.q] : Array Value) = bag3 Bm b.ps.length cm b.s b.q from rfl]
              generalize w5.alloc (.cells (bag3 Bm b.ps.length cm b.s b.q) 28) = w6 at HP6 HQ6 HR6 HO6 ⊢
              have q0 : w6.cell? ⟨w5.heap.size, 0, none⟩ = some (.slice Bm b.ps.length cm) := HQ6.out.cell 0
              have q1 : w6.cell? ⟨w5.heap.size, 1, none⟩ = some (.int .i64 b.s) := HQ6.out.cell 1
              have q2 : w6.cell? ⟨w5.heap.size, 2, none⟩ = some (.int .i64 b.q) := HQ6.out.cell 2
              obtain ⟨m0, m1, m2⟩ := HP6.out.cells
              have f0 := HP6.out.blk.frozen 0
              have f1 := HP6.out.blk.frozen 1
              have f2 := HP6.out.blk.frozen 2
              go_upto_region 29 with (fail)
              have HP7 := Lib.hid (HP6.out.put (r' := ⟨b.ps, b.s, b.q⟩) HR6.out HL5.out HS5.out)
              have HO7 := Lib.hid ((mod3 w6 w2.heap.size 0 1 2 (.slice Bm b.ps.length cm) (.int .i64 b.s) (.int .i64 b.q)).whole HO6.out (by have := HNE.out; simp; omega))
              clear q0 q1 q2 m0 m1 m2 f0 f1 f2 HP6 HQ6 HR6 HO6
              generalize ((w6.setCell _ _).setCell _ _).setCell _ _ = w7 at HP7 HO7 ⊢
              have o0 : w7.cell? ⟨go, 0, none⟩ = some (.int .i64 4) := HO7.out.cell 0
              have o1 : w7.cell? ⟨go, 1, none⟩ = some (.int .i64 kk) := HO7.out.cell 1
              go_wp2_with fail
              clear o0 o1
              refine (Double_gone HP7.out.bag hk).mono ?_
              rintro e w8 ⟨rfl, rfl⟩
              have HPT := Lib.hid (HP7.out.more (Nat.le_succ j))
              clear HP7 hk
              go_wp2_with fail
              go_meet
              exact ⟨by first | rfl | simp, _, _, _, HPT.out⟩
            · obtain ⟨k, rfl⟩ : ∃ k : Nat, kk = (k : Int) := ⟨kk.toNat, by omega⟩
              have hlt2 : k < b.ps.length := by omega
              have HPK := Lib.hid (List.getElem?_eq_getElem hlt2)
              generalize b.ps[k] = pk at HPK
              have HPL2 := Lib.hid (show pk.d.length ≤ 140737488355328 by have := HP4.out.sound.short pk (List.mem_of_getElem? HPK.out); omega)
              have H48 := Lib.hid HP4.out.sound.le
              clear hk
              by_cases h48 : b.ps.length = 48
              · have H48b := Lib.hid h48
                clear h48
                refine (RefDouble_full HP4.out.pks cm HP4.out.le.1 b.s b.q HPK.out H48b.out HP4.out.hS).mono ?_
                rintro e w5 ⟨rfl, hb⟩
                have HP5 := Lib.hid (HP4.out.keep hb)
                have HO5 := Lib.hid ((Mod.of_below hb []).whole HOW.out (by simp))
                have HR5 := Lib.hid HP5.out.pks
                have HL5 := Lib.hid HP5.out.le
                have HS5 := Lib.hid HP5.out.soundr
                clear hb
                have hq := (Below.refl _ w5).alloc (Nat.le_refl _) (.cells (bag3 Bm b.ps.length cm b.s b.q) 28)
                have HP6 := Lib.hid (HP5.out.keep hq)
                have HQ6 := Lib.hid (Whole.new w5 28 (bag3 Bm b.ps.length cm b.s b.q))
                have HR6 := Lib.hid (HR5.out.below hq)
                have HO6 := Lib.hid ((Mod.of_below hq []).whole HO5.out (by simp))
                clear hq
                unfold bag3
                go_upto_region 28 with (fail)
                rw [show (#[Value.slice Bm b.ps.length cm, Value.int .i64 b.s, Value.int .i64 b.q] : Array Value) = bag3 Bm b.ps.length cm b.s b.q from rfl]
                generalize w5.alloc (.cells (bag3 Bm b.ps.length cm b.s b.q) 28) = w6 at HP6 HQ6 HR6 HO6 ⊢
                have q0 : w6.cell? ⟨w5.heap.size, 0, none⟩ = some (.slice Bm b.ps.length cm) := HQ6.out.cell 0
                have q1 : w6.cell? ⟨w5.heap.size, 1, none⟩ = some (.int .i64 b.s) := HQ6.out.cell 1
                have q2 : w6.cell? ⟨w5.heap.size, 2, none⟩ = some (.int .i64 b.q) := HQ6.out.cell 2
                obtain ⟨m0, m1, m2⟩ := HP6.out.cells
                have f0 := HP6.out.blk.frozen 0
                have f1 := HP6.out.blk.frozen 1
                have f2 := HP6.out.blk.frozen 2
                go_upto_region 29 with (fail)
                have HP7 := Lib.hid (HP6.out.put (r' := ⟨b.ps, b.s, b.q⟩) HR6.out HL5.out HS5.out)
                have HO7 := Lib.hid ((mod3 w6 w2.heap.size 0 1 2 (.slice Bm b.ps.length cm) (.int .i64 b.s) (.int .i64 b.q)).whole HO6.out (by have := HNE.out; simp; omega))
                clear q0 q1 q2 m0 m1 m2 f0 f1 f2 HP6 HQ6 HR6 HO6
                generalize ((w6.setCell _ _).setCell _ _).setCell _ _ = w7 at HP7 HO7 ⊢
                have o0 : w7.cell? ⟨go, 0, none⟩ = some (.int .i64 4) := HO7.out.cell 0
                have o1 : w7.cell? ⟨go, 1, none⟩ = some (.int .i64 (k : Int)) := HO7.out.cell 1
                go_wp2_with fail
                clear o0 o1
                refine (Double_full HP7.out.bag HPK.out H48b.out).mono ?_
                rintro e w8 ⟨rfl, hb⟩
                have HPT := Lib.hid ((HP7.out.more (Nat.le_succ j)).keep hb)
                clear HP7 hb
                go_wp2_with fail
                go_meet
                exact ⟨by first | rfl | simp, _, _, _, HPT.out⟩
              · have h48' : b.ps.length < 48 := by have := H48.out; omega
                have HLT48 := Lib.hid h48'
                clear h48 h48'
                refine (RefDouble_ok HP4.out.pks cm HP4.out.le.1 b.s b.q HPK.out HLT48.out HP4.out.hS).mono ?_
                rintro e w5 ⟨B5, c5, rfl, hc5, hp5, hb⟩
                have HP5 := Lib.hid (HP4.out.keep hb)
                have HO5 := Lib.hid ((Mod.of_below hb []).whole HOW.out (by simp))
                have HR5 := Lib.hid hp5.out
                have HL5 := Lib.hid (show (b.ps ++ [pk]).length ≤ c5 ∧ c5 ≤ 9223372036854775807 by rw [List.length_append]; exact hc5.out)
                have HS5 := Lib.hid (HP4.out.soundr.twice HPK.out HLT48.out)
                rw [show b.ps.length + 1 = (b.ps ++ [pk]).length by simp]
                clear hb hc5 hp5
                have hq := (Below.refl _ w5).alloc (Nat.le_refl _) (.cells (bag3 B5 (b.ps ++ [pk]).length c5 b.s b.q) 28)
                have HP6 := Lib.hid (HP5.out.keep hq)
                have HQ6 := Lib.hid (Whole.new w5 28 (bag3 B5 (b.ps ++ [pk]).length c5 b.s b.q))
                have HR6 := Lib.hid (HR5.out.below hq)
                have HO6 := Lib.hid ((Mod.of_below hq []).whole HO5.out (by simp))
                clear hq
                unfold bag3
                go_upto_region 28 with (fail)
                first | rw [show (#[Value.slice B5 (b.ps ++ [pk]).length c5, Value.int .i64 b.s, Value.int .i64 b.q] : Array Value) = bag3 B5 (b.ps ++ [pk]).length c5 b.s b.q from rfl] | rw [show (#[Value.slice B5 (b.ps.length + 1) c5, Value.int .i64 b.s, Value.int .i64 b.q] : Array Value) = bag3 B5 (b.ps ++ [pk]).length c5 b.s b.q by rw [show (b.ps ++ [pk]).length = b.ps.length + 1 by simp]; rfl]
                generalize w5.alloc (.cells (bag3 B5 (b.ps ++ [pk]).length c5 b.s b.q) 28) = w6 at HP6 HQ6 HR6 HO6 ⊢
                have q0 : w6.cell? ⟨w5.heap.size, 0, none⟩ = some (.slice B5 (b.ps ++ [pk]).length c5) := HQ6.out.cell 0
                have q1 : w6.cell? ⟨w5.heap.size, 1, none⟩ = some (.int .i64 b.s) := HQ6.out.cell 1
                have q2 : w6.cell? ⟨w5.heap.size, 2, none⟩ = some (.int .i64 b.q) := HQ6.out.cell 2
                obtain ⟨m0, m1, m2⟩ := HP6.out.cells
                have f0 := HP6.out.blk.frozen 0
                have f1 := HP6.out.blk.frozen 1
                have f2 := HP6.out.blk.frozen 2
                go_upto_region 29 with (fail)
                try rw [show b.ps.length + 1 = (b.ps ++ [pk]).length by simp]
                have HP7 := Lib.hid (HP6.out.put (r' := ⟨(b.ps ++ [pk]), b.s, b.q⟩) HR6.out HL5.out HS5.out)
                have HO7 := Lib.hid ((mod3 w6 w2.heap.size 0 1 2 (.slice B5 (b.ps ++ [pk]).length c5) (.int .i64 b.s) (.int .i64 b.q)).whole HO6.out (by have := HNE.out; simp; omega))
                clear q0 q1 q2 m0 m1 m2 f0 f1 f2 HP6 HQ6 HR6 HO6
                generalize ((w6.setCell _ _).setCell _ _).setCell _ _ = w7 at HP7 HO7 ⊢
                have o0 : w7.cell? ⟨go, 0, none⟩ = some (.int .i64 4) := HO7.out.cell 0
                have o1 : w7.cell? ⟨go, 1, none⟩ = some (.int .i64 (k : Int)) := HO7.out.cell 1
                go_wp2_with fail
                clear o0 o1
                refine (Double_ok HP7.out.bag HPK.out HLT48.out HPL2.out HP7.out.hS).mono ?_
                rintro e w8 ⟨rfl, hB8, hm8⟩
                have HPT := Lib.hid ((HP7.out.bagged (b' := ⟨b.ps ++ [pk], b.s, b.q⟩) hB8.out hm8.out HS5.out).more (Nat.le_succ j))
                clear HP7 hB8 hm8
                go_wp2_with fail
                go_meet
                exact ⟨by first | rfl | simp, _, _, _, HPT.out⟩
            -- END
        by_cases hk3 : kd = 3
        · subst hk3
          as_aux_lemma =>
            -- BEGIN
            have o0 : w4.cell? ⟨go, 0, none⟩ = some (.int .i64 3) := HOW.out.cell 0
            have o1 : w4.cell? ⟨go, 1, none⟩ = some (.int .i64 kk) := HOW.out.cell 1
            obtain ⟨m0, m1, m2⟩ := HP4.out.cells
            clear hk4
            go_wp2_with fail
            clear o0 o1 m0 m1 m2
            by_cases hk : kk < 0 ∨ (b.ps.length : Int) ≤ kk
            · refine (RefTake_no b.ps.length cm b.s b.q hk w4).mono ?_
              rintro e w5 ⟨rfl, hb⟩
              have HP5 := Lib.hid (HP4.out.keep hb)
              have HO5 := Lib.hid ((Mod.of_below hb []).whole HOW.out (by simp))
              have HR5 := Lib.hid HP5.out.pks
              have HL5 := Lib.hid HP5.out.le
              have HS5 := Lib.hid HP5.out.soundr
              clear hb
              unfold zero3
              have hq := ((Below.refl _ w5).alloc (Nat.le_refl _) (.cells (bag3 Bm b.ps.length cm b.s b.q) 28)).alloc (by simp) (.cells #[Value.int .i64 0, Value.int .i64 0, Value.slice none 0 0] 31)
              have HP6 := Lib.hid (HP5.out.keep hq)
              have HQ6 := Lib.hid ((Whole.new w5 28 (bag3 Bm b.ps.length cm b.s b.q)).alloc (.cells #[Value.int .i64 0, Value.int .i64 0, Value.slice none 0 0] 31))
              have HR6 := Lib.hid (HR5.out.below hq)
              have HO6 := Lib.hid ((Mod.of_below hq []).whole HO5.out (by simp))
              clear hq
              unfold bag3
              go_upto_region 24 with (fail)
              rw [show (#[Value.slice Bm b.ps.length cm, Value.int .i64 b.s, Value.int .i64 b.q] : Array Value) = bag3 Bm b.ps.length cm b.s b.q from rfl]
              generalize (w5.alloc (.cells (bag3 Bm b.ps.length cm b.s b.q) 28)).alloc (.cells #[Value.int .i64 0, Value.int .i64 0, Value.slice none 0 0] 31) = w6 at HP6 HQ6 HR6 HO6 ⊢
              have q0 : w6.cell? ⟨w5.heap.size, 0, none⟩ = some (.slice Bm b.ps.length cm) := HQ6.out.cell 0
              have q1 : w6.cell? ⟨w5.heap.size, 1, none⟩ = some (.int .i64 b.s) := HQ6.out.cell 1
              have q2 : w6.cell? ⟨w5.heap.size, 2, none⟩ = some (.int .i64 b.q) := HQ6.out.cell 2
              obtain ⟨m0, m1, m2⟩ := HP6.out.cells
              have f0 := HP6.out.blk.frozen 0
              have f1 := HP6.out.blk.frozen 1
              have f2 := HP6.out.blk.frozen 2
              go_upto_region 25 with (fail)
              have HP7 := Lib.hid (HP6.out.put (r' := ⟨b.ps, b.s, b.q⟩) HR6.out HL5.out HS5.out)
              have HO7 := Lib.hid ((mod3 w6 w2.heap.size 0 1 2 (.slice Bm b.ps.length cm) (.int .i64 b.s) (.int .i64 b.q)).whole HO6.out (by have := HNE.out; simp; omega))
              clear q0 q1 q2 m0 m1 m2 f0 f1 f2 HP6 HQ6 HR6 HO6
              generalize ((w6.setCell _ _).setCell _ _).setCell _ _ = w7 at HP7 HO7 ⊢
              have o0 : w7.cell? ⟨go, 0, none⟩ = some (.int .i64 3) := HO7.out.cell 0
              have o1 : w7.cell? ⟨go, 1, none⟩ = some (.int .i64 kk) := HO7.out.cell 1
              go_wp2_with fail
              clear o0 o1
              refine (Drop_no HP7.out.bag hk).mono ?_
              rintro e w8 ⟨rfl, rfl⟩
              have HPT := Lib.hid (HP7.out.more (Nat.le_succ j))
              clear HP7 hk
              go_wp2_with fail
              go_meet
              exact ⟨by first | rfl | simp, _, _, _, HPT.out⟩
            · obtain ⟨k, rfl⟩ : ∃ k : Nat, kk = (k : Int) := ⟨kk.toNat, by omega⟩
              have hlt2 : k < b.ps.length := by omega
              have HPK := Lib.hid (List.getElem?_eq_getElem hlt2)
              generalize b.ps[k] = pk at HPK
              clear hk
              refine (RefTake_yes HP4.out.pks cm HP4.out.le.1 HP4.out.sound.le b.s b.q HPK.out HP4.out.hS).mono ?_
              rintro e w5 ⟨B5, c5, A5, d5, rfl, hc5, hp5, hb⟩
              have HP5 := Lib.hid (HP4.out.keep hb)
              have HO5 := Lib.hid ((Mod.of_below hb []).whole HOW.out (by simp))
              have HR5 := Lib.hid hp5.out
              have HL5 := Lib.hid hc5.out
              have HS5 := Lib.hid (HP4.out.soundr.erase k)
              clear hb hc5 hp5
              unfold three
              have hq := ((Below.refl _ w5).alloc (Nat.le_refl _) (.cells (bag3 B5 (b.ps.eraseIdx k).length c5 b.s b.q) 28)).alloc (by simp) (.cells #[.int .i64 pk.frm, .int .i64 pk.dst, .slice A5 pk.d.length d5] 31)
              have HP6 := Lib.hid (HP5.out.keep hq)
              have HQ6 := Lib.hid ((Whole.new w5 28 (bag3 B5 (b.ps.eraseIdx k).length c5 b.s b.q)).alloc (.cells #[.int .i64 pk.frm, .int .i64 pk.dst, .slice A5 pk.d.length d5] 31))
              have HR6 := Lib.hid (HR5.out.below hq)
              have HO6 := Lib.hid ((Mod.of_below hq []).whole HO5.out (by simp))
              clear hq
              unfold bag3
              go_upto_region 24 with (fail)
              rw [show (#[Value.slice B5 (b.ps.eraseIdx k).length c5, Value.int .i64 b.s, Value.int .i64 b.q] : Array Value) = bag3 B5 (b.ps.eraseIdx k).length c5 b.s b.q from rfl]
              generalize (w5.alloc (.cells (bag3 B5 (b.ps.eraseIdx k).length c5 b.s b.q) 28)).alloc (.cells #[.int .i64 pk.frm, .int .i64 pk.dst, .slice A5 pk.d.length d5] 31) = w6 at HP6 HQ6 HR6 HO6 ⊢
              have q0 : w6.cell? ⟨w5.heap.size, 0, none⟩ = some (.slice B5 (b.ps.eraseIdx k).length c5) := HQ6.out.cell 0
              have q1 : w6.cell? ⟨w5.heap.size, 1, none⟩ = some (.int .i64 b.s) := HQ6.out.cell 1
              have q2 : w6.cell? ⟨w5.heap.size, 2, none⟩ = some (.int .i64 b.q) := HQ6.out.cell 2
              obtain ⟨m0, m1, m2⟩ := HP6.out.cells
              have f0 := HP6.out.blk.frozen 0
              have f1 := HP6.out.blk.frozen 1
              have f2 := HP6.out.blk.frozen 2
              go_upto_region 25 with (fail)
              have HP7 := Lib.hid (HP6.out.put (r' := ⟨(b.ps.eraseIdx k), b.s, b.q⟩) HR6.out HL5.out HS5.out)
              have HO7 := Lib.hid ((mod3 w6 w2.heap.size 0 1 2 (.slice B5 (b.ps.eraseIdx k).length c5) (.int .i64 b.s) (.int .i64 b.q)).whole HO6.out (by have := HNE.out; simp; omega))
              clear q0 q1 q2 m0 m1 m2 f0 f1 f2 HP6 HQ6 HR6 HO6
              generalize ((w6.setCell _ _).setCell _ _).setCell _ _ = w7 at HP7 HO7 ⊢
              have o0 : w7.cell? ⟨go, 0, none⟩ = some (.int .i64 3) := HO7.out.cell 0
              have o1 : w7.cell? ⟨go, 1, none⟩ = some (.int .i64 (k : Int)) := HO7.out.cell 1
              go_wp2_with fail
              clear o0 o1
              refine (Drop_yes HP7.out.bag hlt2).mono ?_
              rintro e w8 ⟨rfl, hB8, hm8⟩
              have HPT := Lib.hid ((HP7.out.bagged (b' := ⟨b.ps.eraseIdx k, b.s, b.q⟩) hB8.out hm8.out HS5.out).more (Nat.le_succ j))
              clear HP7 hB8 hm8
              go_wp2_with fail
              go_meet
              exact ⟨by first | rfl | simp, _, _, _, HPT.out⟩
            -- END
        by_cases hk5 : kd = 5
        · subst hk5
          clear hk4 hk3
          as_aux_lemma =>
            -- BEGIN
            have o0 : w4.cell? ⟨go, 0, none⟩ = some (.int .i64 5) := HOW.out.cell 0
            go_wp2_with fail
            clear o0
            have HSH := Lib.hid (fun p hp => Nat.le_trans (HP4.out.sound.short p hp) (by decide : 200 ≤ 140737488355328))
            have H48 := Lib.hid HP4.out.sound.le
            have HD := Lib.hid HP4.out.drew
            have HS := HD.out.cells
            go_region_held3 (fun v : World => v.cell? ⟨w2.heap.size, 0, none⟩ = some (.slice Bm b.ps.length cm) ∧ v.cell? ⟨w2.heap.size, 1, none⟩ = some (.int .i64 b.s) ∧ v.cell? ⟨w2.heap.size, 2, none⟩ = some (.int .i64 b.q))
              (first
                | exact HS
                | (go_keep; done))
              (first
                | (go_at_call 16; with_reducible refine (List_any HD.out.bag HSH.out).mono ?_; rintro x v ⟨BL, rfl, hp, hb⟩; have HN := Lib.hid (hp.out.at (S := fun _ => True) (fun _ _ _ => trivial)); replace HD := Lib.hid (HD.out.keep hb.out); replace HS := HD.out.cells; clear hp hb)
                | (go_at_call 15; with_reducible refine (RefSameAll_self HN.out HD.out.pks _ _ (by have := H48.out; omega)).mono ?_; rintro x v ⟨rfl, hb⟩; replace HD := Lib.hid (HD.out.keep hb); replace HS := HD.out.cells; clear hb))
            all_goals
              have HPT := Lib.hid (HD.out.more (Nat.le_succ j))
              clear HD HS
              go_wp2_with fail
              go_meet
              exact ⟨by first | rfl | simp, _, _, _, HPT.out⟩
            -- END
        by_cases hk2 : kd = 2
        · subst hk2
          clear hk4 hk3 hk5
          as_aux_lemma =>
            -- BEGIN
            have o0 : w4.cell? ⟨go, 0, none⟩ = some (.int .i64 2) := HOW.out.cell 0
            have o1 : w4.cell? ⟨go, 1, none⟩ = some (.int .i64 kk) := HOW.out.cell 1
            go_wp2_with fail
            clear o0 o1
            by_cases hk : kk < 0 ∨ (b.ps.length : Int) ≤ kk
            · refine (Look_no HP4.out.bag hk).mono ?_
              rintro e w5 ⟨rfl, hb⟩
              have HP5 := Lib.hid (HP4.out.keep hb)
              have HO5 := Lib.hid ((Mod.of_below hb []).whole HOW.out (by simp))
              clear hb HP4 HOW HB4
              unfold zero3
              have hq := (Below.refl w5.heap.size w5).alloc (Nat.le_refl _) (.cells #[Value.int .i64 0, Value.int .i64 0, Value.slice none 0 0] 31)
              have HP6 := Lib.hid (HP5.out.keep hq)
              have HO6 := Lib.hid ((Mod.of_below hq []).whole HO5.out (by simp))
              have HQ6 := Lib.hid (Whole.new w5 31 #[Value.int .i64 0, Value.int .i64 0, Value.slice none 0 0])
              clear hq
              go_upto_region 16 with (fail)
              generalize w5.alloc (.cells #[Value.int .i64 0, Value.int .i64 0, Value.slice none 0 0] 31) = w6 at HP6 HO6 HQ6 ⊢
              generalize w5.heap.size = qp at HQ6 ⊢
              clear HP5 HO5
              have o0 : w6.cell? ⟨go, 0, none⟩ = some (.int .i64 2) := HO6.out.cell 0
              have o1 : w6.cell? ⟨go, 1, none⟩ = some (.int .i64 kk) := HO6.out.cell 1
              obtain ⟨m0, m1, m2⟩ := HP6.out.cells
              go_wp2_with fail
              clear o0 o1 m0 m1 m2
              refine (RefLook_no b.ps.length cm b.s b.q hk w6).mono ?_
              rintro e w7 ⟨rfl, hb⟩
              have HP7 := Lib.hid (HP6.out.keep hb)
              have HO7 := Lib.hid ((Mod.of_below hb []).whole HO6.out (by simp))
              have HQ7 := Lib.hid ((Mod.of_below hb []).whole HQ6.out (by simp))
              clear hb HP6 HO6 HQ6
              unfold zero3
              have hq := (Below.refl w7.heap.size w7).alloc (Nat.le_refl _) (.cells #[Value.int .i64 0, Value.int .i64 0, Value.slice none 0 0] 31)
              have HP8 := Lib.hid (HP7.out.keep hq)
              have HO8 := Lib.hid ((Mod.of_below hq []).whole HO7.out (by simp))
              have HQ8 := Lib.hid ((Mod.of_below hq []).whole HQ7.out (by simp))
              have HR8 := Lib.hid (Whole.new w7 31 #[Value.int .i64 0, Value.int .i64 0, Value.slice none 0 0])
              clear hq
              go_upto_region 19 with (fail)
              generalize w7.alloc (.cells #[Value.int .i64 0, Value.int .i64 0, Value.slice none 0 0] 31) = w8 at HP8 HO8 HQ8 HR8 ⊢
              generalize w7.heap.size = qr at HR8 ⊢
              clear HP7 HO7 HQ7
              have o0 : w8.cell? ⟨go, 0, none⟩ = some (.int .i64 2) := HO8.out.cell 0
              have o1 : w8.cell? ⟨go, 1, none⟩ = some (.int .i64 kk) := HO8.out.cell 1
              have q0 : w8.cell? ⟨qp, 0, none⟩ = some (.int .i64 0) := HQ8.out.cell 0
              have q1 : w8.cell? ⟨qp, 1, none⟩ = some (.int .i64 0) := HQ8.out.cell 1
              have q2 : w8.cell? ⟨qp, 2, none⟩ = some (.slice none 0 0) := HQ8.out.cell 2
              have r0 : w8.cell? ⟨qr, 0, none⟩ = some (.int .i64 0) := HR8.out.cell 0
              have r1 : w8.cell? ⟨qr, 1, none⟩ = some (.int .i64 0) := HR8.out.cell 1
              have r2 : w8.cell? ⟨qr, 2, none⟩ = some (.slice none 0 0) := HR8.out.cell 2
              go_wp2_with fail
              clear o0 o1 q0 q1 q2 r0 r1 r2
              refine (RefSame_none w8).mono ?_
              rintro e w9 ⟨rfl, hb⟩
              have HPT := Lib.hid ((HP8.out.keep hb).more (Nat.le_succ j))
              clear HP8 HO8 HQ8 HR8 hb hk
              go_wp2_with fail
              go_meet
              exact ⟨by first | rfl | simp, _, _, _, HPT.out⟩
            · obtain ⟨k, rfl⟩ : ∃ k : Nat, kk = (k : Int) := ⟨kk.toNat, by omega⟩
              have hlt2 : k < b.ps.length := by omega
              have HPK := Lib.hid (List.getElem?_eq_getElem hlt2)
              generalize b.ps[k] = pk at HPK
              have HPL2 := Lib.hid (show pk.d.length ≤ 140737488355328 by have := HP4.out.sound.short pk (List.mem_of_getElem? HPK.out); omega)
              clear hk
              refine (Look_yes HP4.out.bag HPK.out HPL2.out).mono ?_
              rintro e w5 ⟨A5, d5, rfl, hD, hb⟩
              have HP5 := Lib.hid (HP4.out.keep hb.out)
              have HO5 := Lib.hid ((Mod.of_below hb.out []).whole HOW.out (by simp))
              have HD5 := hD
              clear hb hD HP4 HOW HB4
              unfold three
              have hq := (Below.refl w5.heap.size w5).alloc (Nat.le_refl _) (.cells #[.int .i64 pk.frm, .int .i64 pk.dst, .slice A5 pk.d.length d5] 31)
              have HP6 := Lib.hid (HP5.out.keep hq)
              have HO6 := Lib.hid ((Mod.of_below hq []).whole HO5.out (by simp))
              have HD6 := Lib.hid (HD5.out.below hq)
              have HQ6 := Lib.hid (Whole.new w5 31 #[.int .i64 pk.frm, .int .i64 pk.dst, .slice A5 pk.d.length d5])
              clear hq
              go_upto_region 16 with (fail)
              generalize w5.alloc (.cells #[.int .i64 pk.frm, .int .i64 pk.dst, .slice A5 pk.d.length d5] 31) = w6 at HP6 HO6 HD6 HQ6 ⊢
              generalize w5.heap.size = qp at HQ6 ⊢
              clear HP5 HO5 HD5
              have o0 : w6.cell? ⟨go, 0, none⟩ = some (.int .i64 2) := HO6.out.cell 0
              have o1 : w6.cell? ⟨go, 1, none⟩ = some (.int .i64 (k : Int)) := HO6.out.cell 1
              obtain ⟨m0, m1, m2⟩ := HP6.out.cells
              go_wp2_with fail
              clear o0 o1 m0 m1 m2
              refine (RefLook_yes HP6.out.pks cm b.s b.q HPK.out).mono ?_
              rintro e w7 ⟨A7, d7, rfl, hE, hb⟩
              have HP7 := Lib.hid (HP6.out.keep hb)
              have HO7 := Lib.hid ((Mod.of_below hb []).whole HO6.out (by simp))
              have HQ7 := Lib.hid ((Mod.of_below hb []).whole HQ6.out (by simp))
              have HD7 := Lib.hid (HD6.out.below hb)
              have HE7 := hE
              clear hb hE HP6 HO6 HQ6 HD6
              unfold three
              have hq := (Below.refl w7.heap.size w7).alloc (Nat.le_refl _) (.cells #[.int .i64 pk.frm, .int .i64 pk.dst, .slice A7 pk.d.length d7] 31)
              have HP8 := Lib.hid (HP7.out.keep hq)
              have HO8 := Lib.hid ((Mod.of_below hq []).whole HO7.out (by simp))
              have HQ8 := Lib.hid ((Mod.of_below hq []).whole HQ7.out (by simp))
              have HD8 := Lib.hid (HD7.out.below hq)
              have HE8 := Lib.hid (HE7.out.below hq)
              have HR8 := Lib.hid (Whole.new w7 31 #[.int .i64 pk.frm, .int .i64 pk.dst, .slice A7 pk.d.length d7])
              clear hq
              go_upto_region 19 with (fail)
              generalize w7.alloc (.cells #[.int .i64 pk.frm, .int .i64 pk.dst, .slice A7 pk.d.length d7] 31) = w8 at HP8 HO8 HQ8 HD8 HE8 HR8 ⊢
              generalize w7.heap.size = qr at HR8 ⊢
              clear HP7 HO7 HQ7 HD7 HE7
              have o0 : w8.cell? ⟨go, 0, none⟩ = some (.int .i64 2) := HO8.out.cell 0
              have o1 : w8.cell? ⟨go, 1, none⟩ = some (.int .i64 (k : Int)) := HO8.out.cell 1
              have q0 : w8.cell? ⟨qp, 0, none⟩ = some (.int .i64 pk.frm) := HQ8.out.cell 0
              have q1 : w8.cell? ⟨qp, 1, none⟩ = some (.int .i64 pk.dst) := HQ8.out.cell 1
              have q2 : w8.cell? ⟨qp, 2, none⟩ = some (.slice A5 pk.d.length d5) := HQ8.out.cell 2
              have r0 : w8.cell? ⟨qr, 0, none⟩ = some (.int .i64 pk.frm) := HR8.out.cell 0
              have r1 : w8.cell? ⟨qr, 1, none⟩ = some (.int .i64 pk.dst) := HR8.out.cell 1
              have r2 : w8.cell? ⟨qr, 2, none⟩ = some (.slice A7 pk.d.length d7) := HR8.out.cell 2
              go_wp2_with fail
              clear o0 o1 q0 q1 q2 r0 r1 r2
              refine (RefSame_raw pk A5 A7 d5 d7 w8 HD8.out.bytes HE8.out.bytes).mono ?_
              rintro e w9 ⟨rfl, hb⟩
              have HPT := Lib.hid ((HP8.out.keep hb).more (Nat.le_succ j))
              clear HP8 HO8 HQ8 HR8 HD8 HE8 hb
              go_wp2_with fail
              go_meet
              exact ⟨by first | rfl | simp, _, _, _, HPT.out⟩
            -- END
        by_cases hk1 : kd = 1
        · subst hk1
          as_aux_lemma =>
            clear hk4 hk3 hk5 hk2
            have HGW := Lib.hid (show go ≠ w1.heap.size from HGX.out)
            have o0 : w4.cell? ⟨go, 0, none⟩ = some (.int .i64 1) := HOW.out.cell 0
            have o1 : w4.cell? ⟨go, 1, none⟩ = some (.int .i64 kk) := HOW.out.cell 1
            go_wp2_with fail
            clear o0 o1
            by_cases hk : kk < 0 ∨ (b.ps.length : Int) ≤ kk
            · refine (Look_no HP4.out.bag hk).mono ?_
              rintro e w5 ⟨rfl, hb⟩
              have HP5 := Lib.hid (HP4.out.keep hb)
              have HO5 := Lib.hid ((Mod.of_below hb []).whole HOW.out (by simp))
              clear hb HP4 HOW HB4
              unfold zero3
              have HN := Lib.hid (show w5.heap.size ≠ w1.heap.size ∧ w5.heap.size ≠ w2.heap.size ∧ w.heap.size ≤ w5.heap.size ∧ w5.heap.size ≠ go from ⟨HP5.out.hz.1, HP5.out.hz.2.1, HP5.out.hz.2.2, by have := HO5.out.lt; omega⟩)
              have HP5 := Lib.hid (HP5.out.hgz rfl)
              have hq := (Below.refl w5.heap.size w5).alloc (Nat.le_refl _) (.cells #[Value.int .i64 0, Value.int .i64 0, Value.slice none 0 0] 31)
              have HP6 := Lib.hid (HP5.out.keep hq)
              have HO6 := Lib.hid ((Mod.of_below hq []).whole HO5.out (by simp))
              have HQ6 := Lib.hid (Whole.new w5 31 #[Value.int .i64 0, Value.int .i64 0, Value.slice none 0 0])
              clear hq
              go_upto_region 16 with (fail)
              generalize w5.alloc (.cells #[Value.int .i64 0, Value.int .i64 0, Value.slice none 0 0] 31) = w6 at HP6 HO6 HQ6 ⊢
              clear HP5 HO5
              generalize w5.heap.size = qp at HQ6 HP6 HN ⊢
              have o0 : w6.cell? ⟨go, 0, none⟩ = some (.int .i64 1) := HO6.out.cell 0
              have o1 : w6.cell? ⟨go, 1, none⟩ = some (.int .i64 kk) := HO6.out.cell 1
              go_wp2_with fail
              clear o0 o1
              refine (Take_no HP6.out.bag hk).mono ?_
              rintro e w7 ⟨rfl, hb⟩
              have HP7 := Lib.hid (HP6.out.keep hb)
              have HO7 := Lib.hid ((Mod.of_below hb []).whole HO6.out (by simp))
              have HQ7 := Lib.hid ((Mod.of_below hb []).whole HQ6.out (by simp))
              clear hb HP6 HO6 HQ6
              unfold zero3
              have q0 : w7.cell? ⟨qp, 0, none⟩ = some (.int .i64 0) := HQ7.out.cell 0
              have q1 : w7.cell? ⟨qp, 1, none⟩ = some (.int .i64 0) := HQ7.out.cell 1
              have q2 : w7.cell? ⟨qp, 2, none⟩ = some (.slice none 0 0) := HQ7.out.cell 2
              have f0 := HQ7.out.frozen 0
              have f1 := HQ7.out.frozen 1
              have f2 := HQ7.out.frozen 2
              have hm8 := mod3 w7 qp 0 1 2 (.int .i64 0) (.int .i64 0) (.slice none 0 0)
              go_upto_region 18 with (fail)
              have HP8 := Lib.hid (HP7.out.mod1 hm8 (fun h => h.2 rfl) HN.out.1 HN.out.2.1 HN.out.2.2.1)
              have HO8 := Lib.hid (hm8.whole HO7.out (by simpa using HN.out.2.2.2.symm))
              have HQ8 := Lib.hid (((HQ7.out.store 0 (.int .i64 0)).store 1 (.int .i64 0)).store 2 (.slice none 0 0))
              clear hm8
              generalize ((w7.setCell _ _).setCell _ _).setCell _ _ = w8 at HP8 HO8 HQ8 ⊢
              clear q0 q1 q2 f0 f1 f2 HP7 HO7 HQ7
              have o0 : w8.cell? ⟨go, 0, none⟩ = some (.int .i64 1) := HO8.out.cell 0
              have o1 : w8.cell? ⟨go, 1, none⟩ = some (.int .i64 kk) := HO8.out.cell 1
              obtain ⟨m0, m1, m2⟩ := HP8.out.cells
              go_wp2_with fail
              clear o0 o1 m0 m1 m2
              refine (RefLook_no b.ps.length cm b.s b.q hk w8).mono ?_
              rintro e w9 ⟨rfl, hb⟩
              have HP9 := Lib.hid (HP8.out.keep hb)
              have HO9 := Lib.hid ((Mod.of_below hb []).whole HO8.out (by simp))
              have HQ9 := Lib.hid ((Mod.of_below hb []).whole HQ8.out (by simp))
              clear hb HP8 HO8 HQ8
              unfold zero3
              have hq := (Below.refl w9.heap.size w9).alloc (Nat.le_refl _) (.cells #[Value.int .i64 0, Value.int .i64 0, Value.slice none 0 0] 31)
              have HP10 := Lib.hid (HP9.out.keep hq)
              have HO10 := Lib.hid ((Mod.of_below hq []).whole HO9.out (by simp))
              have HQ10 := Lib.hid ((Mod.of_below hq []).whole HQ9.out (by simp))
              have HR10 := Lib.hid (Whole.new w9 31 #[Value.int .i64 0, Value.int .i64 0, Value.slice none 0 0])
              clear hq
              go_upto_region 19 with (fail)
              generalize w9.alloc (.cells #[Value.int .i64 0, Value.int .i64 0, Value.slice none 0 0] 31) = w10 at HP10 HO10 HQ10 HR10 ⊢
              have HRG := Lib.hid (show w9.heap.size ≠ w2.heap.size from HP9.out.hz.2.1)
              clear HP9 HO9 HQ9
              generalize w9.heap.size = qr at HR10 HRG ⊢
              have o0 : w10.cell? ⟨go, 0, none⟩ = some (.int .i64 1) := HO10.out.cell 0
              have o1 : w10.cell? ⟨go, 1, none⟩ = some (.int .i64 kk) := HO10.out.cell 1
              obtain ⟨m0, m1, m2⟩ := HP10.out.cells
              go_wp2_with fail
              clear o0 o1 m0 m1 m2
              refine (RefTake_no b.ps.length cm b.s b.q hk w10).mono ?_
              rintro e w11 ⟨rfl, hb⟩
              have HP11 := Lib.hid (HP10.out.keep hb)
              have HQ11 := Lib.hid ((Mod.of_below hb []).whole HQ10.out (by simp))
              have HR11 := Lib.hid ((Mod.of_below hb []).whole HR10.out (by simp))
              clear hb HP10 HO10 HQ10 HR10
              unfold bag3
              obtain ⟨m0, m1, m2⟩ := HP11.out.cells
              have f0 := HP11.out.blk.frozen 0
              have f1 := HP11.out.blk.frozen 1
              have f2 := HP11.out.blk.frozen 2
              have hm8 := mod3 w11 w2.heap.size 0 1 2 (.slice Bm b.ps.length cm) (.int .i64 b.s) (.int .i64 b.q)
              go_upto_region 21 with (fail)
              have HP12 := Lib.hid (HP11.out.put (r' := b) HP11.out.pks HP11.out.le HP11.out.soundr)
              have HQ12 := Lib.hid (hm8.whole HQ11.out (by simpa using HN.out.2.1))
              have HR12 := Lib.hid (hm8.whole HR11.out (by simpa using HRG.out))
              clear hm8
              generalize ((w11.setCell _ _).setCell _ _).setCell _ _ = w12 at HP12 HQ12 HR12 ⊢
              clear m0 m1 m2 f0 f1 f2 HP11 HQ11 HR11
              have q0 : w12.cell? ⟨qp, 0, none⟩ = some (.int .i64 0) := HQ12.out.cell 0
              have q1 : w12.cell? ⟨qp, 1, none⟩ = some (.int .i64 0) := HQ12.out.cell 1
              have q2 : w12.cell? ⟨qp, 2, none⟩ = some (.slice none 0 0) := HQ12.out.cell 2
              have r0 : w12.cell? ⟨qr, 0, none⟩ = some (.int .i64 0) := HR12.out.cell 0
              have r1 : w12.cell? ⟨qr, 1, none⟩ = some (.int .i64 0) := HR12.out.cell 1
              have r2 : w12.cell? ⟨qr, 2, none⟩ = some (.slice none 0 0) := HR12.out.cell 2
              go_wp2_with fail
              clear q0 q1 q2 r0 r1 r2
              refine (RefSame_none w12).mono ?_
              rintro e w13 ⟨rfl, hb⟩
              have HPT := Lib.hid (((HP12.out.keep hb).other (S' := fun x => x ≠ w1.heap.size ∧ x ≠ w2.heap.size) (fun x _ hs => hs.1) (fun h => h.1 rfl) (fun h => h.2 rfl)).more (Nat.le_succ j))
              clear HP12 HQ12 HR12 hb hk
              go_wp2_with fail
              go_meet
              exact ⟨by first | rfl | simp, _, _, _, HPT.out⟩
            · obtain ⟨k, rfl⟩ : ∃ k : Nat, kk = (k : Int) := ⟨kk.toNat, by omega⟩
              have hlt2 : k < b.ps.length := by omega
              have HPK := Lib.hid (List.getElem?_eq_getElem hlt2)
              generalize b.ps[k] = pk at HPK
              have HPL2 := Lib.hid (show pk.d.length ≤ 140737488355328 by have := HP4.out.sound.short pk (List.mem_of_getElem? HPK.out); omega)
              clear hk
              have H48 := Lib.hid HP4.out.sound.le
              have HS7 := Lib.hid (HP4.out.sound.erase k)
              refine (Look_yes HP4.out.bag HPK.out HPL2.out).mono ?_
              rintro e w5 ⟨A5, d5, rfl, hD, hb⟩
              have HP5 := Lib.hid (HP4.out.keep hb.out)
              have HO5 := Lib.hid ((Mod.of_below hb.out []).whole HOW.out (by simp))
              clear hb hD HP4 HOW HB4
              unfold three
              have HN := Lib.hid (show w5.heap.size ≠ w1.heap.size ∧ w5.heap.size ≠ w2.heap.size ∧ w.heap.size ≤ w5.heap.size ∧ w5.heap.size ≠ go from ⟨HP5.out.hz.1, HP5.out.hz.2.1, HP5.out.hz.2.2, by have := HO5.out.lt; omega⟩)
              have HP5 := Lib.hid (HP5.out.hgz rfl)
              have hq := (Below.refl w5.heap.size w5).alloc (Nat.le_refl _) (.cells #[.int .i64 pk.frm, .int .i64 pk.dst, .slice A5 pk.d.length d5] 31)
              have HP6 := Lib.hid (HP5.out.keep hq)
              have HO6 := Lib.hid ((Mod.of_below hq []).whole HO5.out (by simp))
              have HQ6 := Lib.hid (Whole.new w5 31 #[.int .i64 pk.frm, .int .i64 pk.dst, .slice A5 pk.d.length d5])
              clear hq
              go_upto_region 16 with (fail)
              generalize w5.alloc (.cells #[.int .i64 pk.frm, .int .i64 pk.dst, .slice A5 pk.d.length d5] 31) = w6 at HP6 HO6 HQ6 ⊢
              clear HP5 HO5
              generalize w5.heap.size = qp at HQ6 HP6 HN ⊢
              have HLT := Lib.hid (show qp < w6.heap.size ∧ w2.heap.size < w6.heap.size ∧ go ≠ w1.heap.size from ⟨HQ6.out.lt, HP6.out.blk.lt, HGW.out⟩)
              have o0 : w6.cell? ⟨go, 0, none⟩ = some (.int .i64 1) := HO6.out.cell 0
              have o1 : w6.cell? ⟨go, 1, none⟩ = some (.int .i64 (k : Int)) := HO6.out.cell 1
              go_wp2_with fail
              clear o0 o1
              refine (Take_yes HP6.out.bag HPK.out HPL2.out).mono ?_
              rintro e w7 ⟨A7, d7, rfl, hD, hB, hm⟩
              have HP7 := Lib.hid (HP6.out.bagged (b' := ⟨b.ps.eraseIdx k, b.s, b.q⟩) hB.out hm.out HS7.out)
              have HO7 := Lib.hid (hm.out.whole HO6.out (by simpa using HLT.out.2.2))
              have HQ7 := Lib.hid (hm.out.whole HQ6.out (by simpa using HN.out.1))
              have HD7 := hD
              clear hm hD hB HP6 HO6 HQ6
              unfold three
              have q0 : w7.cell? ⟨qp, 0, none⟩ = some (.int .i64 pk.frm) := HQ7.out.cell 0
              have q1 : w7.cell? ⟨qp, 1, none⟩ = some (.int .i64 pk.dst) := HQ7.out.cell 1
              have q2 : w7.cell? ⟨qp, 2, none⟩ = some (.slice A5 pk.d.length d5) := HQ7.out.cell 2
              have f0 := HQ7.out.frozen 0
              have f1 := HQ7.out.frozen 1
              have f2 := HQ7.out.frozen 2
              have hm8 := mod3 w7 qp 0 1 2 (.int .i64 pk.frm) (.int .i64 pk.dst) (.slice A7 pk.d.length d7)
              go_upto_region 18 with (fail)
              have HP8 := Lib.hid (HP7.out.mod1 hm8 (fun h => h.2 rfl) HN.out.1 HN.out.2.1 HN.out.2.2.1)
              have HO8 := Lib.hid (hm8.whole HO7.out (by simpa using HN.out.2.2.2.symm))
              have HQ8 := Lib.hid (((HQ7.out.store 0 (.int .i64 pk.frm)).store 1 (.int .i64 pk.dst)).store 2 (.slice A7 pk.d.length d7))
              have HD8 := Lib.hid (HD7.out.mod hm8 (fun x hx => by rw [List.mem_singleton.1 hx]; have := HLT.out; omega))
              clear hm8
              generalize ((w7.setCell _ _).setCell _ _).setCell _ _ = w8 at HP8 HO8 HQ8 HD8 ⊢
              clear q0 q1 q2 f0 f1 f2 HP7 HO7 HQ7 HD7
              have o0 : w8.cell? ⟨go, 0, none⟩ = some (.int .i64 1) := HO8.out.cell 0
              have o1 : w8.cell? ⟨go, 1, none⟩ = some (.int .i64 (k : Int)) := HO8.out.cell 1
              obtain ⟨m0, m1, m2⟩ := HP8.out.cells
              go_wp2_with fail
              clear o0 o1 m0 m1 m2
              refine (RefLook_yes HP8.out.pks cm b.s b.q HPK.out).mono ?_
              rintro e w9 ⟨A9, d9, rfl, hE, hb⟩
              have HP9 := Lib.hid (HP8.out.keep hb)
              have HO9 := Lib.hid ((Mod.of_below hb []).whole HO8.out (by simp))
              have HQ9 := Lib.hid ((Mod.of_below hb []).whole HQ8.out (by simp))
              have HD9 := Lib.hid (HD8.out.below hb)
              have HE9 := hE
              clear hb hE HP8 HO8 HQ8 HD8
              unfold three
              have hq := (Below.refl w9.heap.size w9).alloc (Nat.le_refl _) (.cells #[.int .i64 pk.frm, .int .i64 pk.dst, .slice A9 pk.d.length d9] 31)
              have HP10 := Lib.hid (HP9.out.keep hq)
              have HO10 := Lib.hid ((Mod.of_below hq []).whole HO9.out (by simp))
              have HQ10 := Lib.hid ((Mod.of_below hq []).whole HQ9.out (by simp))
              have HD10 := Lib.hid (HD9.out.below hq)
              have HE10 := Lib.hid (HE9.out.below hq)
              have HR10 := Lib.hid (Whole.new w9 31 #[.int .i64 pk.frm, .int .i64 pk.dst, .slice A9 pk.d.length d9])
              clear hq
              go_upto_region 19 with (fail)
              generalize w9.alloc (.cells #[.int .i64 pk.frm, .int .i64 pk.dst, .slice A9 pk.d.length d9] 31) = w10 at HP10 HO10 HQ10 HD10 HE10 HR10 ⊢
              have HRG := Lib.hid (show w9.heap.size ≠ w2.heap.size from HP9.out.hz.2.1)
              clear HP9 HO9 HQ9 HD9 HE9
              generalize w9.heap.size = qr at HR10 HRG ⊢
              have o0 : w10.cell? ⟨go, 0, none⟩ = some (.int .i64 1) := HO10.out.cell 0
              have o1 : w10.cell? ⟨go, 1, none⟩ = some (.int .i64 (k : Int)) := HO10.out.cell 1
              obtain ⟨m0, m1, m2⟩ := HP10.out.cells
              go_wp2_with fail
              clear o0 o1 m0 m1 m2
              refine (RefTake_yes HP10.out.pks cm HP10.out.le.1 H48.out b.s b.q HPK.out (fun x hx => ⟨HP10.out.hS x hx, neOf HQ10.out.lt hx⟩)).mono ?_
              rintro e w11 ⟨B5, c5, A11, d11, rfl, hc, hp, hb⟩
              have HP11 := Lib.hid (HP10.out.keep hb)
              have HQ11 := Lib.hid ((Mod.of_below hb []).whole HQ10.out (by simp))
              have HR11 := Lib.hid ((Mod.of_below hb []).whole HR10.out (by simp))
              have HD11 := Lib.hid (HD10.out.below hb)
              have HE11 := Lib.hid (HE10.out.below hb)
              have HC11 := Lib.hid hc.out
              have HK11 := Lib.hid hp.out
              clear hb hc hp HP10 HO10 HQ10 HR10 HD10 HE10
              unfold bag3
              obtain ⟨m0, m1, m2⟩ := HP11.out.cells
              have f0 := HP11.out.blk.frozen 0
              have f1 := HP11.out.blk.frozen 1
              have f2 := HP11.out.blk.frozen 2
              have hm8 := mod3 w11 w2.heap.size 0 1 2 (.slice B5 (b.ps.eraseIdx k).length c5) (.int .i64 b.s) (.int .i64 b.q)
              go_upto_region 21 with (fail)
              have HP12 := Lib.hid (HP11.out.put (r' := ⟨b.ps.eraseIdx k, b.s, b.q⟩) HK11.out HC11.out HS7.out)
              have HQ12 := Lib.hid (hm8.whole HQ11.out (by simpa using HN.out.2.1))
              have HR12 := Lib.hid (hm8.whole HR11.out (by simpa using HRG.out))
              have HD12 := Lib.hid (HD11.out.mod hm8 (fun x hx => by rw [List.mem_singleton.1 hx]; have := HLT.out; omega))
              have HE12 := Lib.hid (HE11.out.mod hm8 (fun x hx => by rw [List.mem_singleton.1 hx]; exact fun h => h.1.2 rfl))
              clear hm8
              generalize ((w11.setCell _ _).setCell _ _).setCell _ _ = w12 at HP12 HQ12 HR12 HD12 HE12 ⊢
              clear m0 m1 m2 f0 f1 f2 HP11 HQ11 HR11 HD11 HE11 HC11 HK11
              have q0 : w12.cell? ⟨qp, 0, none⟩ = some (.int .i64 pk.frm) := HQ12.out.cell 0
              have q1 : w12.cell? ⟨qp, 1, none⟩ = some (.int .i64 pk.dst) := HQ12.out.cell 1
              have q2 : w12.cell? ⟨qp, 2, none⟩ = some (.slice A7 pk.d.length d7) := HQ12.out.cell 2
              have r0 : w12.cell? ⟨qr, 0, none⟩ = some (.int .i64 pk.frm) := HR12.out.cell 0
              have r1 : w12.cell? ⟨qr, 1, none⟩ = some (.int .i64 pk.dst) := HR12.out.cell 1
              have r2 : w12.cell? ⟨qr, 2, none⟩ = some (.slice A9 pk.d.length d9) := HR12.out.cell 2
              go_wp2_with fail
              clear q0 q1 q2 r0 r1 r2
              refine (RefSame_raw pk A7 A9 d7 d9 w12 HD12.out.bytes HE12.out.bytes).mono ?_
              rintro e w13 ⟨rfl, hb⟩
              have HPT := Lib.hid (((HP12.out.keep hb).other (S' := fun x => x ≠ w1.heap.size ∧ x ≠ w2.heap.size) (fun x _ hs => hs.1) (fun h => h.1 rfl) (fun h => h.2 rfl)).more (Nat.le_succ j))
              clear HP12 HQ12 HR12 HD12 HE12 hb
              go_wp2_with fail
              go_meet
              exact ⟨by first | rfl | simp, _, _, _, HPT.out⟩
        · have hq1 : (kd == 1) = false := by simp; omega
          have hq2 : (kd == 2) = false := by simp; omega
          have hq3 : (kd == 3) = false := by simp; omega
          have hq4 : (kd == 4) = false := by simp; omega
          have hq5 : (kd == 5) = false := by simp; omega
          clear hk1 hk2 hk3 hk4 hk5
          have o0 : w4.cell? ⟨go, 0, none⟩ = some (.int .i64 kd) := HOW.out.cell 0
          go_upto_region 10 with (fail)
          clear o0 hq1 hq2 hq3 hq4 hq5
          have HJ := Lib.hid (show j ≤ 4611686018427387904 ∧ j + 1 ≤ 4611686018427387904 by omega)
          have HDL := Lib.hid (show p.d.length ≤ 140737488355328 by have := HL1.out; omega)
          go_cut [17, 18] (fun s17 s18 wx => Nxt (fun x => x ≠ w1.heap.size ∧ x ≠ w2.heap.size) w1.heap.size w2.heap.size go w b Bm cm j kd kk p B1 c1 s17 s18 wx)
          case first =>
            as_aux_lemma =>
              -- BEGIN
              have HK0 := Lib.hid (show Kp (fun x => x ≠ w1.heap.size ∧ x ≠ w2.heap.size) w1.heap.size w2.heap.size go w b Bm cm j kd kk p B1 c1 w4 from ⟨HP4.out, HOW.out, HB4.out⟩)
              have HKd := Lib.hid HK0.out.drew
              have HKa := Lib.hid HK0.out.hgz.drew
              have HZa := Lib.hid (show Whole (w4.alloc (.cells #[Value.slice none 0 0, Value.int .i64 0, Value.int .i64 0] 28)).drew w4.heap.size 28 #[Value.slice none 0 0, Value.int .i64 0, Value.int .i64 0] from Whole.new w4 _ _)
              obtain ⟨m0, m1, m2⟩ := HKd.out.pl.cells
              obtain ⟨n0, n1, n2⟩ := HKa.out.pl.cells
              have o2 := HKd.out.op.cell 2
              have o3 := HKd.out.op.cell 3
              have o4 := HKd.out.op.cell 4
              have e2 := HKa.out.op.cell 2
              have e3 := HKa.out.op.cell 3
              have e4 := HKa.out.op.cell 4
              go_region_with (first
                | (go_at_call 18; with_reducible refine (lawOwn_raw p B1 c1 w4.drew HKd.out.bb.bytes HDL.out).mono ?_; rintro x v ⟨A6, c6, rfl, ho, hb⟩; have HK := Lib.hid (HKd.out.keep hb); have HW6 := Lib.hid (Data.own (S := fun x => x ≠ w1.heap.size ∧ x ≠ w2.heap.size) ho.out (fun x hx _ => HKd.out.pl.hS x hx)); have HKz := Lib.hid HK.out.hgz; obtain ⟨m0', m1', m2'⟩ := HK.out.pl.cells; obtain ⟨n0', n1', n2'⟩ := HKz.out.pl.cells; clear ho hb)
                | (go_at_call 18; refine (lawOwn_raw p B1 c1 (w4.alloc (.cells #[Value.slice none 0 0, Value.int .i64 0, Value.int .i64 0] 28)).drew HKa.out.bb.bytes HDL.out).mono ?_; rintro x v ⟨A6, c6, rfl, ho, hb⟩; have HK := Lib.hid (HKa.out.keep hb); have HW6 := Lib.hid (Data.own (S := fun x => (x ≠ w1.heap.size ∧ x ≠ w2.heap.size) ∧ x ≠ w4.heap.size) ho.out (fun x hx _ => ⟨HKa.out.pl.hS x hx, neOf HZa.out.lt hx⟩)); have HZZ := Lib.hid (wb hb HZa.out); obtain ⟨m0', m1', m2'⟩ := HK.out.pl.cells; clear ho hb)
                | (go_at_call 17; have q9 := HZZ.out.lt; refine (RefSend_raw HK.out.pl.pks HK.out.pl.soundr HJ.out.1 cm HK.out.pl.le p A6 c6 HW6.out (fun x hx => ⟨HK.out.pl.hS x hx, neOf q9 hx⟩)).mono ?_; rintro x u ⟨B7, c7, rfl, hc7, hp7, hb⟩; have HR7 := Lib.hid hp7.out; have HC7 := Lib.hid hc7.out; have HK7 := Lib.hid (HK.out.keep hb); have HZ7 := Lib.hid (wb hb HZZ.out); have z0 := HZ7.out.cell 0; have z1 := HZ7.out.cell 1; have z2 := HZ7.out.cell 2; have y0 := HZ7.out.frozen 0; have y1 := HZ7.out.frozen 1; have y2 := HZ7.out.frozen 2; clear hp7 hc7 hb)
                | (go_at_call 17; with_reducible refine (RefSend_raw HK.out.pl.pks HK.out.pl.soundr HJ.out.1 cm HK.out.pl.le p A6 c6 HW6.out HK.out.pl.hS).mono ?_; rintro x u ⟨B7, c7, rfl, hc7, hp7, hb⟩; have HR7 := Lib.hid hp7.out; have HC7 := Lib.hid hc7.out; have HK7 := Lib.hid (HK.out.keep hb); clear hp7 hc7 hb)
                | (go_at_call 17; have q9 := whole_of HK.out.pl 28 #[Value.slice none 0 0, Value.int .i64 0, Value.int .i64 0]; have q8 := HK.out.fits; refine (RefSend_raw HKz.out.pl.pks HKz.out.pl.soundr HJ.out.1 cm HKz.out.pl.le p A6 c6 (data_hgv HW6.out) (fun x hx => ⟨HKz.out.pl.hS x hx, neOf q9.lt hx⟩)).mono ?_; rintro x u ⟨B7, c7, rfl, hc7, hp7, hb⟩; have HR7 := Lib.hid hp7.out; have HC7 := Lib.hid hc7.out; have HK7 := Lib.hid (HKz.out.keep hb); have HZ7 := Lib.hid (wb hb q9); have HF7 := Lib.hid q8; have z0 := HZ7.out.cell 0; have z1 := HZ7.out.cell 1; have z2 := HZ7.out.cell 2; have y0 := HZ7.out.frozen 0; have y1 := HZ7.out.frozen 1; have y2 := HZ7.out.frozen 2; clear hp7 hc7 hb q9 q8))
              all_goals go_wp2_with fail
              all_goals go_meet
              all_goals first
                | exact nxt_of HK7.out HZ7.out rfl HR7.out HC7.out HF7.out
                | exact nxt_of HK7.out HZ7.out rfl HR7.out HC7.out HK0.out.fits
                | exact nxt_new HK7.out HR7.out HC7.out
              -- END
          case rest =>
            obtain ⟨gz, B7, c7, rfl, rfl, hPl, hP7, hC7, hW7, hO7, hB7⟩ := hcut
            have HS6 := Lib.hid (hPl.sound.sent p)
            have HP6 := Lib.hid (hPl.more (Nat.le_succ j))
            have HR6 := Lib.hid hP7
            have HC6 := Lib.hid hC7
            have HQ6 := Lib.hid hW7
            have HO6 := Lib.hid hO7
            have HB6 := Lib.hid hB7
            clear hPl hP7 hC7 hW7 hO7 hB7 HP4 HOW HB4
            have q0 : wc.cell? ⟨gz, 0, none⟩ = some (.slice B7 (sent b p).ps.length c7) := HQ6.out.cell 0
            have q1 : wc.cell? ⟨gz, 1, none⟩ = some (.int .i64 (sent b p).s) := HQ6.out.cell 1
            have q2 : wc.cell? ⟨gz, 2, none⟩ = some (.int .i64 (sent b p).q) := HQ6.out.cell 2
            obtain ⟨m0, m1, m2⟩ := HP6.out.cells
            have f0 := HP6.out.blk.frozen 0
            have f1 := HP6.out.blk.frozen 1
            have f2 := HP6.out.blk.frozen 2
            go_upto_region 12 with (fail)
            have hm7 := mod3 wc w2.heap.size 0 1 2 (.slice B7 (sent b p).ps.length c7) (.int .i64 (sent b p).s) (.int .i64 (sent b p).q)
            have HP7 := Lib.hid (HP6.out.put (r' := sent b p) HR6.out HC6.out HS6.out)
            have HO7 := Lib.hid (hm7.whole HO6.out (by have := HNE.out; simp; omega))
            have HB7 := Lib.hid (HB6.out.mod hm7 (by intro x hx; rw [List.mem_singleton.1 hx]; have := HP6.out.far; omega))
            clear q0 q1 q2 m0 m1 m2 f0 f1 f2 HP6 HQ6 HR6 HO6 HB6 hm7
            generalize ((wc.setCell _ _).setCell _ _).setCell _ _ = w7 at HP7 HO7 HB7 ⊢
            have o2 : w7.cell? ⟨go, 2, none⟩ = some (.int .i64 p.frm) := HO7.out.cell 2
            have o3 : w7.cell? ⟨go, 3, none⟩ = some (.int .i64 p.dst) := HO7.out.cell 3
            have o4 : w7.cell? ⟨go, 4, none⟩ = some (.slice B1 p.d.length c1) := HO7.out.cell 4
            go_wp2_with fail
            refine (lawOwn_any p B1 c1 w7 HB7.out.bytes HDL.out).mono ?_
            rintro e w8 ⟨A8, c8, rfl, ho, hb⟩
            have HD8 := Lib.hid (Data.own (S := fun x => x ≠ w1.heap.size ∧ x ≠ w2.heap.size) ho.out (fun x hx _ => HP7.out.hS x hx))
            have HP8 := Lib.hid (HP7.out.keep hb)
            clear ho hb o2 o3 o4 HP7 HO7 HB7
            unfold three
            go_wp2_with fail
            refine (Send_any HP8.out.bag HP8.out.sound HJ.out.2 p A8 c8 (HD8.out.below (Below.refl _ _)).bytes HP8.out.hS).mono ?_
            rintro e w9 ⟨rfl, hB9, hm9⟩
            have HPT := Lib.hid (HP8.out.bagged (b' := sent b p) hB9.out hm9.out HS6.out)
            clear hB9 hm9 HP8 HD8
            go_wp2_with fail
            go_meet
            exact ⟨by first | rfl | simp, _, _, _, HPT.out⟩
      case rest =>
        obtain ⟨rfl, hN⟩ := hcut
        obtain ⟨b', B', c', hPT⟩ := hN
        have HPT := Lib.hid hPT
        clear hPT
        try clear HP4 HOW HB4 HL1 HNE HGX
        as_aux_lemma =>
          -- BEGIN
          go_wp2_with fail
          have HD := Lib.hid HPT.out.drew
          have HS := HD.out.cells
          go_region_held3 (fun v : World => v.cell? ⟨w2.heap.size, 0, none⟩ = some (.slice B' b'.ps.length c') ∧ v.cell? ⟨w2.heap.size, 1, none⟩ = some (.int .i64 b'.s) ∧ v.cell? ⟨w2.heap.size, 2, none⟩ = some (.int .i64 b'.q))
            (first
              | exact HS
              | (go_keep; done))
            (first
              | (go_at_call 20; with_reducible refine (Len_any HD.out.bag).mono ?_; rintro x v ⟨rfl, rfl⟩)
              | (go_at_call 21; with_reducible refine (Sent_any HD.out.bag).mono ?_; rintro x v ⟨rfl, rfl⟩)
              | (go_at_call 22; with_reducible refine (Lost_any HD.out.bag).mono ?_; rintro x v ⟨rfl, rfl⟩))
          all_goals
            go_wp2_with fail
            go_roundw
            case rel => exact ⟨j + 1, _, _, _, rfl, hlt, HD.out⟩
            case measure => simp only [intOf]; omega
          -- END
    · obtain rfl : j = l.length := by omega
      go_wp2_with fail
      have HSH := Lib.hid (fun p hp => Nat.le_trans (HP.out.sound.short p hp) (by decide : 200 ≤ 140737488355328))
      have H48 := Lib.hid HP.out.sound.le
      have HD := Lib.hid HP.out.drew
      have HS := HD.out.cells
      go_region_held3 (fun v : World => v.cell? ⟨w2.heap.size, 0, none⟩ = some (.slice Bm b.ps.length cm) ∧ v.cell? ⟨w2.heap.size, 1, none⟩ = some (.int .i64 b.s) ∧ v.cell? ⟨w2.heap.size, 2, none⟩ = some (.int .i64 b.q))
        (first
          | exact HS
          | (go_keep; done))
        (first
          | (go_at_call 16; with_reducible refine (List_any HD.out.bag HSH.out).mono ?_; rintro x v ⟨BL, rfl, hp, hb⟩; have HN := Lib.hid (hp.out.at (S := fun _ => True) (fun _ _ _ => trivial)); replace HD := Lib.hid (HD.out.keep hb.out); replace HS := HD.out.cells; clear hp hb)
          | (go_at_call 15; with_reducible refine (RefSameAll_self HN.out HD.out.pks _ _ (by have := H48.out; omega)).mono ?_; rintro x v ⟨rfl, hb⟩; replace HD := Lib.hid (HD.out.keep hb); replace HS := HD.out.cells; clear hb))
      all_goals
        go_wp2_with fail
        go_ret
        exact ⟨rfl, HD.out.below⟩

end Go.Proofs.Ytnbfdgccaacdiaa.lawBagPlays
