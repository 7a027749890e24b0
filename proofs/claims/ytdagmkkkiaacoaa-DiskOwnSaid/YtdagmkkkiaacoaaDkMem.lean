/- Disks in memory; a disk as New lays it (32,773 cells: never written out). -/
import Derived.Test.YtdagmkkkiaacoaaBytes
import Derived.Test.YtdagmkkkiaacoaaDkMath
import Derived.Deep.MidRow
import Derived.Great.BuildSlice
namespace Go.Proofs.Ytdagmkkkiaacoaa
open Go.RowKit
open By (BytesAt u8 u8s own_shape)
set_option linter.unusedVariables false
set_option linter.unusedSimpArgs false
set_option maxRecDepth 100000
def zcells (t : TypeInfo) : List Value := match t.zero with | some (.agg cs) => cs.toList | _ => []
def isU0 : Value → Bool | .int .u8 (.ofNat 0) => true | _ => false
theorem isU0_eq {v : Value} (h : isU0 v = true) : v = .int .u8 0 := by
  unfold isU0 at h
  split at h
  · rfl
  · cases h
/-- Behind n bytes of zero: what is left. -/
def strip : List Value → Nat → Option (List Value)
  | l, 0 => some l
  | [], _ + 1 => none
  | v :: l, n + 1 => match isU0 v with | true => strip l n | false => none
theorem strip_eq : ∀ (n : Nat) (l r : List Value), strip l n = some r → l = List.replicate n (.int .u8 0) ++ r
  | 0, l, r, h => by simpa [strip] using h
  | n + 1, [], r, h => by simp [strip] at h
  | n + 1, v :: l, r, h => by
    rw [strip] at h
    split at h
    · rename_i hv
      rw [isU0_eq hv, strip_eq n l r h, List.replicate_succ, List.cons_append]
    · cases h
def aggOf (t : TypeInfo) : Bool := match t.zero with | some (.agg _) => true | _ => false
theorem zero_agg (t : TypeInfo) (h : aggOf t = true) : t.zero = some (.agg (zcells t).toArray) := by
  unfold aggOf at h
  unfold zcells
  split at h
  · rename_i cs e
    rw [e]
  · cases h
def tail5 : List Value := [.int .i64 0, .int .i64 0, .bool false, .bool false, .int .i64 0]
theorem strip_disk : strip (zcells Try.t59) 32768 = some tail5 := by kernel_rfl
theorem cells_disk : zcells Try.t59 = List.replicate 32768 (.int .u8 0) ++ tail5 := strip_eq _ _ _ strip_disk
/-- The cells of a disk that is all zeros, of n sectors. -/
def head5 (n : Nat) : List Value := [.int .i64 n, .int .i64 0, .bool false, .bool false, .int .i64 0]
def disk0 (n : Nat) : Array Value := (List.replicate 32768 (Value.int .u8 0) ++ head5 n).toArray
theorem disk0_size (n : Nat) : (disk0 n).size = 32773 := by unfold disk0; rw [List.size_toArray, List.length_append, List.length_replicate]; rfl
theorem disk0_u8 (n : Nat) {j : Nat} (h : j < 32768) : (disk0 n)[j]? = some (.int .u8 0) := by
  unfold disk0
  rw [List.getElem?_toArray, List.getElem?_append_left (by rw [List.length_replicate]; exact h), List.getElem?_replicate, if_pos h]
theorem disk0_tail (n : Nat) {j : Nat} {v : Value} (h : (head5 n)[j]? = some v) : (disk0 n)[32768 + j]? = some v := by
  unfold disk0
  rw [List.getElem?_toArray, List.getElem?_append_right (by rw [List.length_replicate]; omega), List.length_replicate, Nat.add_sub_cancel_left]
  exact h
theorem built_struct {P : Program} {t : TypeId} {it : TypeInfo} {fields : Array Field} {z : Value} {places : List (Nat × Nat)} (parts : List (Nat × Value)) (hi : P.info? t = some it) (hu : P.underlying t = some (.struct fields)) (hz : it.zero = some z)
    (hp : fields.toList.mapM (fun f => (P.info? f.type).map fun i => (f.offset, i.size)) = some places) : P.built t parts = Instr.fill (places.toArray[·]?) z.cells parts := by
  unfold Program.built
  simp only [hi, hu, hz, hp]
theorem fill_one {place : Nat → Option (Nat × Nat)} {cells : Array Value} {i o : Nat} {k : IntKind} {x : Int} (hp : place i = some (o, 1)) (ho : o + 1 ≤ cells.size) : Instr.fill place cells [(i, .int k x)] = some (cells.setIfInBounds o (.int k x)) := by
  unfold Instr.fill
  rw [hp]
  have h1 : (Value.int k x).cells = #[.int k x] := rfl
  simp only [h1]
  rw [if_neg (by simp; exact ho)]
  rfl
theorem built_disk (n : Nat) : Try.prog.built 59 [(1, .int .i64 (n : Int))] = some (disk0 n) := by
  rw [built_struct (places := [(0, 32768), (32768, 1), (32769, 1), (32770, 1), (32771, 1), (32772, 1)]) _ (show Try.prog.info? 59 = some Try.t59 by kernel_rfl) Try.underlying59 (zero_agg Try.t59 (by kernel_rfl)) (by kernel_rfl)]
  rw [cells_disk]
  rw [show (Value.agg (List.replicate 32768 (Value.int IntKind.u8 0) ++ tail5).toArray).cells = (List.replicate 32768 (Value.int IntKind.u8 0) ++ tail5).toArray from rfl]
  rw [fill_one (o := 32768) (by rfl) (by rw [List.size_toArray, List.length_append, List.length_replicate]; decide)]
  unfold disk0
  rw [List.setIfInBounds_toArray, List.set_append_right _ _ (by rw [List.length_replicate]; exact Nat.le_refl _), List.length_replicate]
  rfl
/-- The disk at block g. -/
structure DkAt (w : World) (g : Nat) (d : Dk) : Prop where
  ex : ∃ cs : Array Value, Whole w g 59 cs ∧ cs.size = 32773 ∧ cs[32768]? = some (.int .i64 (d.ss.length : Int)) ∧ cs[32769]? = some (.int .i64 d.wr) ∧ cs[32770]? = some (.bool d.off) ∧ cs[32771]? = some (.bool (decide (0 ≤ d.am))) ∧ cs[32772]? = some (.int .i64 (max d.am 0)) ∧
    ∀ (i : Nat) (x : List UInt8), d.ss[i]? = some x → ∀ (j : Nat) (c : UInt8), x[j]? = some c → cs[i * 64 + j]? = some (u8 c)
  ok : DK.Sound d
section
variable {w w' : World} {g : Nat} {d : Dk} {F : List Nat}
theorem DkAt.lt (h : DkAt w g d) : g < w.heap.size := by
  obtain ⟨cs, h1, _⟩ := h.ex
  exact h1.lt
theorem DkAt.mod (h : DkAt w g d) (hm : Mod F w w') (hg : g ∉ F) : DkAt w' g d := by
  obtain ⟨cs, h1, h2⟩ := h.ex
  exact ⟨⟨cs, hm.whole h1 hg, h2⟩, h.ok⟩
theorem DkAt.below (h : DkAt w g d) (hb : Below w.heap.size w w') : DkAt w' g d := h.mod (F := []) (Mod.of_below hb []) (by simp)
theorem DkAt.nums (h : DkAt w g d) : w.cell? ⟨g, 32768, none⟩ = some (.int .i64 (d.ss.length : Int)) ∧ w.cell? ⟨g, 32769, none⟩ = some (.int .i64 d.wr) ∧ w.cell? ⟨g, 32770, none⟩ = some (.bool d.off) ∧ w.cell? ⟨g, 32771, none⟩ = some (.bool (decide (0 ≤ d.am))) ∧ w.cell? ⟨g, 32772, none⟩ = some (.int .i64 (max d.am 0)) := by
  obtain ⟨cs, h1, h2, h3, h4, h5, h6, h7, h8⟩ := h.ex
  exact ⟨(h1.cell _).trans h3, (h1.cell _).trans h4, (h1.cell _).trans h5, (h1.cell _).trans h6, (h1.cell _).trans h7⟩
theorem DkAt.fr (h : DkAt w g d) (i : Nat) : w.frozen? ⟨g, i, none⟩ = false := by
  obtain ⟨cs, h1, _⟩ := h.ex
  exact h1.frozen i
theorem DkAt.row (h : DkAt w g d) {i : Nat} {x : List UInt8} (hx : d.ss[i]? = some x) : w.rangeAt g (i * 64) (u8s x) := by
  obtain ⟨cs, h1, h2, h3, h4, h5, h6, h7, h8⟩ := h.ex
  intro j v hv
  unfold u8s at hv
  rw [List.getElem?_map] at hv
  obtain ⟨c, hc, rfl⟩ := Option.map_eq_some_iff.1 hv
  exact (h1.cell _).trans (h8 i x hx j c hc)
theorem DkAt.there (h : DkAt w g d) {i n : Nat} (hi : i * 64 + n ≤ 32773) : w.there g (i * 64) n := by
  obtain ⟨cs, h1, h2, _⟩ := h.ex
  intro j hj
  refine ⟨?_, h1.frozen _⟩
  rw [h1.cell, Array.getElem?_eq_getElem (by omega)]
  rfl
theorem DkAt.zero {n : Nat} (hn : 1 ≤ n ∧ n ≤ 512) (w : World) : DkAt (w.alloc (.cells (disk0 n) 59)) w.heap.size (DK.zero n) := by
  refine ⟨⟨disk0 n, Whole.new w _ _, disk0_size n, ?_, disk0_tail n (j := 1) rfl, disk0_tail n (j := 2) rfl, disk0_tail n (j := 3) rfl, disk0_tail n (j := 4) rfl, fun i x hx j c hc => ?_⟩, DK.zero_sound hn⟩
  · rw [show (DK.zero n).ss.length = n by simp [DK.zero]]
    exact disk0_tail n (j := 0) rfl
  · have hi : i < n := by have := (List.getElem?_eq_some_iff.1 hx).1; simpa [DK.zero] using this
    have e := List.eq_of_mem_replicate (List.mem_of_getElem? hx)
    subst e
    have hj : j < 64 := by have := (List.getElem?_eq_some_iff.1 hc).1; simpa using this
    have e := List.eq_of_mem_replicate (List.mem_of_getElem? hc)
    subst e
    exact disk0_u8 n (by omega)
end
end Go.Proofs.Ytdagmkkkiaacoaa
