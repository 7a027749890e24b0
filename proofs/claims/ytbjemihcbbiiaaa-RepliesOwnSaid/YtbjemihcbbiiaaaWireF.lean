/- Texts that belong together: WireW1, WireW2. -/
import Derived.Test.YtbjemihcbbiiaaaOctB
import Derived.Test.YtbjemihcbbiiaaaInts
import Derived.Test.YtbjemihcbbiiaaaWireA
import Derived.StillTailTactics
namespace Go.Proofs.Ytbjemihcbbiiaaa
open Go.RowKit
open Oct (WAt Laid)
set_option linter.unusedVariables false
set_option maxRecDepth 100000
/-- A number of 64 bits. -/
def In64 (x : Int) : Prop := -9223372036854775808 ≤ x ∧ x ≤ 9223372036854775807
theorem laid_on {w w1 w2 : World} {a : Nat} {M : List UInt8} {F F1 : List Nat} (hM : Mod F w w1) (hF : ∀ x ∈ F1, x ∈ F ∨ w.heap.size ≤ x) (h : Laid w1 a F1 M w2) : Laid w a F M w2 := by
  obtain ⟨F2, k1, k2, k3⟩ := h
  exact ⟨F2, k1, hM.trans k2 hF, fun x hx => (k3 x hx).elim (hF x) (fun hs => .inr (Nat.le_trans hM.size hs))⟩
theorem nums_append (a b : List Int) : WM.nums (a ++ b) = WM.nums a ++ WM.nums b := by
  induction a with
  | nil => rfl
  | cons n a ih => rw [List.cons_append, WM.nums, WM.nums, ih, List.append_assoc]
theorem nums_take {l : List Int} {k : Nat} (h : k < l.length) : WM.nums (l.take (k + 1)) = WM.nums (l.take k) ++ OM.enc (l[k]).toNat := by
  rw [List.take_add_one, List.getElem?_eq_getElem h, nums_append]
  show _ ++ WM.nums [l[k]] = _
  rw [WM.nums_one]
theorem nums_room {l : List Int} {k : Nat} {L : List UInt8} (h : k < l.length) (hl : (L ++ WM.nums l).length ≤ 140737488355328) : ((L ++ WM.nums (l.take k)) ++ OM.enc (l[k]).toNat).length ≤ 140737488355328 := by
  rw [List.append_assoc, ← nums_take h]
  have e : WM.nums l = WM.nums (l.take (k + 1)) ++ WM.nums (l.drop (k + 1)) := by rw [← nums_append, List.take_append_drop]
  rw [e, ← List.append_assoc, List.length_append] at hl
  omega
theorem nums_len9 : ∀ (l : List Int), (∀ x ∈ l, In64 x) → (WM.nums l).length ≤ 9 * l.length
  | [], _ => Nat.zero_le _
  | n :: l, h => by
    have h1 : (OM.enc n.toNat).length ≤ 9 := OM.enc_nine (by have := h n (by simp); unfold In64 at this; omega)
    have h2 := nums_len9 l (fun x hx => h x (by simp [hx]))
    rw [WM.nums, List.length_append, List.length_cons]
    omega
set_option maxHeartbeats 1000000 in
theorem nums_any (a : Nat) (A : Option Addr) (c : Nat) (l : List Int) (L : List UInt8) (F : List Nat) (w : World) (h : WAt w a L F) (hA : IntsAt w A l) (hn : ∀ ad, A = some ad → ad.block ∉ F) (hl : l.length ≤ c) (hc : c ≤ 9223372036854775807) (hr : ∀ x ∈ l, In64 x)
    (hlen : (L ++ WM.nums l).length ≤ 140737488355328) :
    Calls Try.prog 66 #[.pointer (some ⟨a, 0, none⟩), .slice A l.length c] w fun e w' => e = .returned (.tuple #[]) ∧ Laid w a F (L ++ WM.nums l) w' := by
  have H := Lib.hid h; clear h
  have HB := Lib.hid hlen; clear hlen
  have HA := Lib.hid hA; clear hA
  have HN := Lib.hid hn; clear hn
  have HR := Lib.hid hr; clear hr
  go_enter Try.func66, Try.ntmps66
  go_wp2_with fail
  go_loopw [5, 8] (fun _ i wx => ∃ (k : Nat), i = .int .i64 (k : Int) ∧ k ≤ l.length ∧ Laid w a F (L ++ WM.nums (l.take k)) wx) (fun _ i _ => l.length - (intOf i).toNat)
  case atStart => exact ⟨0, rfl, by omega, by rw [List.take_zero]; unfold WM.nums; rw [List.append_nil]; exact Oct.Laid.refl H.out⟩
  case round =>
    obtain ⟨k, rfl, hk, hL⟩ := hrel
    have HL := Lib.hid hL; clear hL
    obtain ⟨F1, hA, hM, hF⟩ := HL.out
    have HA1 := Lib.hid hA; clear hA
    have HM1 := Lib.hid hM; clear hM
    have HF1 := Lib.hid hF; clear hF
    by_cases hlt : k < l.length
    · obtain ⟨b, o, eA, _, hca⟩ := (HA.out.mod HM1.out HN.out) (by omega)
      subst eA
      have ca := hca k l[k] (List.getElem?_eq_getElem hlt)
      clear hca
      have HE := Lib.hid (nums_take hlt)
      have HO := Lib.hid (nums_room hlt HB.out)
      have hx := HR.out l[k] (List.getElem_mem hlt)
      unfold In64 at hx
      generalize l[k] = x at ca HE HO hx
      go_wp2_with (go_at_call 72; refine (Oct.Num_any a x _ F1 _ hx HA1.out HO.out).mono ?_; rintro e w2 ⟨rfl, hl2⟩; have HL2 := Lib.hid hl2; clear hl2)
      go_roundw
      case rel => exact ⟨k + 1, rfl, by omega, by rw [HE.out, ← List.append_assoc]; exact laid_on HM1.out HF1.out HL2.out⟩
      case measure => simp only [intOf]; omega
    · go_wp2_with fail
      go_end0
      refine ⟨rfl, ?_⟩
      have e : l.take k = l := List.take_of_length_le (by omega)
      rw [e] at HL
      exact HL.out
set_option maxHeartbeats 1000000 in
theorem flag_any (a : Nat) (on : Bool) (L : List UInt8) (F : List Nat) (w : World) (h : WAt w a L F) (hlen : (L ++ WM.flag on).length ≤ 140737488355328) :
    Calls Try.prog 71 #[.pointer (some ⟨a, 0, none⟩), .bool on] w fun e w' => e = .returned (.tuple #[]) ∧ Laid w a F (L ++ WM.flag on) w' := by
  have H := Lib.hid h; clear h
  cases on with
  | true =>
    have HB := Lib.hid (show (L ++ OM.enc ((1 : Int)).toNat).length ≤ 140737488355328 from hlen); clear hlen
    go_enter Try.func71, Try.ntmps71
    go_wp2_with (go_at_call 72; refine (Oct.Num_any a 1 _ F _ (by omega) H.out HB.out).mono ?_; rintro e w2 ⟨rfl, hl2⟩; have HL2 := Lib.hid hl2; clear hl2)
    go_end0
    exact ⟨rfl, HL2.out⟩
  | false =>
    have HB := Lib.hid (show (L ++ OM.enc ((0 : Int)).toNat).length ≤ 140737488355328 from hlen); clear hlen
    go_enter Try.func71, Try.ntmps71
    go_wp2_with (go_at_call 72; refine (Oct.Num_any a 0 _ F _ (by omega) H.out HB.out).mono ?_; rintro e w2 ⟨rfl, hl2⟩; have HL2 := Lib.hid hl2; clear hl2)
    go_end0
    exact ⟨rfl, HL2.out⟩
set_option maxHeartbeats 1000000 in
theorem stamp_any (a : Nat) (A : Option Addr) (c : Nat) (l : List Int) (L : List UInt8) (F : List Nat) (w : World) (h : WAt w a L F) (hA : IntsAt w A l) (hn : ∀ ad, A = some ad → ad.block ∉ F ∧ ad.block < w.heap.size) (hl : l.length ≤ c) (hc : c ≤ 9223372036854775807) (hr : ∀ x ∈ l, In64 x)
    (hlen : (L ++ WM.stampB l).length ≤ 140737488355328) :
    Calls Try.prog 77 #[.pointer (some ⟨a, 0, none⟩), .slice A l.length c] w fun e w' => e = .returned (.tuple #[]) ∧ Laid w a F (L ++ WM.stampB l) w' := by
  have H := Lib.hid h; clear h
  have HE := Lib.hid (show L ++ WM.stampB l = (L ++ OM.enc ((l.length : Int)).toNat) ++ WM.nums l by unfold WM.stampB; rw [List.append_assoc]; rfl)
  rw [HE.out] at hlen
  have HB := Lib.hid hlen
  have HB1 := Lib.hid (show (L ++ OM.enc ((l.length : Int)).toNat).length ≤ 140737488355328 by rw [List.length_append] at hlen; omega)
  clear hlen
  have HA := Lib.hid hA; clear hA
  have HN := Lib.hid hn; clear hn
  have HR := Lib.hid hr; clear hr
  go_enter Try.func77, Try.ntmps77
  go_wp2_with fail
  refine (Oct.Num_any a (l.length : Int) _ F _ (by omega) H.out HB1.out).mono ?_
  rintro e w1 ⟨rfl, F1, hA1, hM1, hF1⟩
  have HA1 := Lib.hid hA1; clear hA1
  have HM1 := Lib.hid hM1; clear hM1
  have HF1 := Lib.hid hF1; clear hF1
  go_wp2_with fail
  refine (nums_any a A c l _ F1 _ HA1.out (HA.out.mod HM1.out (fun ad h => (HN.out ad h).1)) (fun ad h hf => (HF1.out _ hf).elim (HN.out ad h).1 (fun h2 => by have := (HN.out ad h).2; omega)) hl hc HR.out HB.out).mono ?_
  rintro e w2 ⟨rfl, hl2⟩
  have HL2 := Lib.hid hl2; clear hl2
  go_wp2_with fail
  go_end0
  refine ⟨rfl, ?_⟩
  rw [HE.out]
  exact laid_on HM1.out HF1.out HL2.out
end Go.Proofs.Ytbjemihcbbiiaaa
namespace Go.Proofs.Ytbjemihcbbiiaaa
open Go.RowKit
open Oct (WAt Laid)
open WM (Msg)
set_option linter.unusedVariables false
set_option maxRecDepth 100000
/-- A message's cells; its stamp lies at sv. -/
def cellsM (m : Msg) (sv : Value) : Array Value := #[.int .i64 m.kind, .int .i64 m.frm, .int .i64 m.dst, .int .i64 m.boot, .int .i64 m.seq, .int .i64 m.low, .int .i64 m.verb, .string m.path, .int .i64 m.mode, .int .i64 m.term, .int .i64 m.id, .bool m.fresh, .int .i64 m.code, sv, .int .i64 m.origin, .int .i64 m.number]
/-- All its numbers are of 64 bits. -/
structure Wide (m : Msg) : Prop where
  kind : In64 m.kind
  frm : In64 m.frm
  dst : In64 m.dst
  boot : In64 m.boot
  seq : In64 m.seq
  low : In64 m.low
  verb : In64 m.verb
  mode : In64 m.mode
  term : In64 m.term
  id : In64 m.id
  code : In64 m.code
  origin : In64 m.origin
  number : In64 m.number
  stamp : ∀ x ∈ m.stamp, In64 x
  path : m.path.size ≤ 140737488351232
/-- A message as a value that may be handed on. -/
def MsgV (w : World) (v : Value) (m : Msg) : Prop :=
  ∃ A c, v = .agg (cellsM m (.slice A m.stamp.length c)) ∧ IntsAt w A m.stamp ∧ (∀ ad, A = some ad → ad.block < w.heap.size) ∧ m.stamp.length ≤ c ∧ c ≤ 9223372036854775807 ∧ Wide m
abbrev MsgBlk (w : World) (g : Nat) (m : Msg) (sv : Value) : Prop := Whole w g 32 (cellsM m sv)
theorem msg_cells {w : World} {g : Nat} {m : Msg} {sv : Value} (h : MsgBlk w g m sv) :
    (w.cell? ⟨g, 0, none⟩ = some (.int .i64 m.kind) ∧ w.cell? ⟨g, 1, none⟩ = some (.int .i64 m.frm) ∧ w.cell? ⟨g, 2, none⟩ = some (.int .i64 m.dst) ∧ w.cell? ⟨g, 3, none⟩ = some (.int .i64 m.boot) ∧
    w.cell? ⟨g, 4, none⟩ = some (.int .i64 m.seq) ∧ w.cell? ⟨g, 5, none⟩ = some (.int .i64 m.low) ∧ w.cell? ⟨g, 6, none⟩ = some (.int .i64 m.verb) ∧ w.cell? ⟨g, 7, none⟩ = some (.string m.path) ∧
    w.cell? ⟨g, 8, none⟩ = some (.int .i64 m.mode) ∧ w.cell? ⟨g, 9, none⟩ = some (.int .i64 m.term) ∧ w.cell? ⟨g, 10, none⟩ = some (.int .i64 m.id) ∧ w.cell? ⟨g, 11, none⟩ = some (.bool m.fresh) ∧
    w.cell? ⟨g, 12, none⟩ = some (.int .i64 m.code) ∧ w.cell? ⟨g, 13, none⟩ = some sv ∧ w.cell? ⟨g, 14, none⟩ = some (.int .i64 m.origin) ∧ w.cell? ⟨g, 15, none⟩ = some (.int .i64 m.number)) :=
  ⟨h.cell 0, h.cell 1, h.cell 2, h.cell 3, h.cell 4, h.cell 5, h.cell 6, h.cell 7, h.cell 8, h.cell 9, h.cell 10, h.cell 11, h.cell 12, h.cell 13, h.cell 14, h.cell 15⟩
/- The calls that lay down, one behind the other, from one world on. -/
section
variable {a : Nat} {F : List Nat} {L : List UInt8} {w w1 : World}
theorem laid_drew (h : Laid w a F L w1) : Laid w a F L w1.drew := by
  obtain ⟨F1, h1, h2, h3⟩ := h
  exact ⟨F1, h1.mod (Mod.drew (Mod.refl [] _)) (by simp), h2.drew, h3⟩
theorem laid_alloc (h : Laid w a F L w1) (o : Obj) : Laid w a F L (w1.alloc o) := by
  obtain ⟨F1, h1, h2, h3⟩ := h
  exact ⟨F1, h1.mod (Mod.alloc (Mod.refl [] _) o) (by simp), h2.alloc o, h3⟩
theorem ints_new (w : World) (l : List Int) : IntsAt (w.alloc (.cells (i64s l).toArray 3)) (some ⟨w.heap.size, 0, none⟩) l := fun h0 =>
  ⟨w.heap.size, 0, rfl, by simp, fun j x hx => by
    have h := (Whole.new w 3 (i64s l).toArray).cell (0 + j)
    rw [h, Nat.zero_add]
    simp [i64s, hx, i64]⟩
theorem lay_num (h : Laid w a F L w1) (n : Int) (hn : In64 n) (hlen : (L ++ OM.enc n.toNat).length ≤ 140737488355328) :
    Calls Try.prog 72 #[.pointer (some ⟨a, 0, none⟩), .int .i64 n] w1 fun e w2 => e = .returned (.tuple #[]) ∧ Laid w a F (L ++ OM.enc n.toNat) w2 := by
  obtain ⟨F1, h1, h2, h3⟩ := h
  exact (Oct.Num_any a n L F1 w1 hn h1 hlen).mono fun e w2 k => ⟨k.1, laid_on h2 h3 k.2⟩
theorem lay_text (h : Laid w a F L w1) (s : ByteArray) (hs : s.size ≤ 140737488351232) (hlen : (L ++ OM.encT s.data.toList).length ≤ 140737488355328) :
    Calls Try.prog 70 #[.pointer (some ⟨a, 0, none⟩), .string s] w1 fun e w2 => e = .returned (.tuple #[]) ∧ Laid w a F (L ++ OM.encT s.data.toList) w2 := by
  obtain ⟨F1, h1, h2, h3⟩ := h
  exact (Oct.Text_any a s L F1 w1 (by omega) h1 hlen).mono fun e w2 k => ⟨k.1, laid_on h2 h3 k.2⟩
theorem lay_flag (h : Laid w a F L w1) (on : Bool) (hlen : (L ++ WM.flag on).length ≤ 140737488355328) :
    Calls Try.prog 71 #[.pointer (some ⟨a, 0, none⟩), .bool on] w1 fun e w2 => e = .returned (.tuple #[]) ∧ Laid w a F (L ++ WM.flag on) w2 := by
  obtain ⟨F1, h1, h2, h3⟩ := h
  exact (flag_any a on L F1 w1 h1 hlen).mono fun e w2 k => ⟨k.1, laid_on h2 h3 k.2⟩
theorem lay_nums (h : Laid w a F L w1) (l : List Int) {cs : Array Value} {n g : Nat} (hg : g = w1.heap.size) (hcs : cs = (i64s l).toArray) (hn : n = l.length) (hl : l.length ≤ 9223372036854775807) (hr : ∀ x ∈ l, In64 x) (hlen : (L ++ WM.nums l).length ≤ 140737488355328) :
    Calls Try.prog 66 #[.pointer (some ⟨a, 0, none⟩), .slice (some ⟨g, 0, none⟩) n n] (w1.alloc (.cells cs 3)) fun e w2 => e = .returned (.tuple #[]) ∧ Laid w a F (L ++ WM.nums l) w2 := by
  subst hcs hn hg
  obtain ⟨F1, h1, h2, h3⟩ := laid_alloc h (.cells (i64s l).toArray 3)
  obtain ⟨F0, g1, g2, g3⟩ := h
  have hlt := g1.lt
  have h1' : WAt (w1.alloc (.cells (i64s l).toArray 3)) a L F0 := g1.mod (Mod.alloc (Mod.refl [] _) _) (by simp)
  exact (nums_any a _ l.length l L F0 _ h1' (ints_new w1 l) (fun ad e hf => by
    injection e with e
    subst e
    have := hlt _ hf
    simp at this) (Nat.le_refl _) hl hr hlen).mono fun e w2 k => ⟨k.1, laid_on (g2.alloc _) g3 k.2⟩
theorem lay_stamp (h : Laid w a F L w1) (A : Option Addr) (c : Nat) (l : List Int) (hA : IntsAt w A l) (hn : ∀ ad, A = some ad → ad.block ∉ F ∧ ad.block < w.heap.size) (hl : l.length ≤ c) (hc : c ≤ 9223372036854775807) (hr : ∀ x ∈ l, In64 x)
    (hlen : (L ++ WM.stampB l).length ≤ 140737488355328) :
    Calls Try.prog 77 #[.pointer (some ⟨a, 0, none⟩), .slice A l.length c] w1 fun e w2 => e = .returned (.tuple #[]) ∧ Laid w a F (L ++ WM.stampB l) w2 := by
  obtain ⟨F1, h1, h2, h3⟩ := h
  exact (stamp_any a A c l L F1 w1 h1 (hA.mod h2 (fun ad e => (hn ad e).1)) (fun ad e => ⟨fun hf => (h3 _ hf).elim (hn ad e).1 (fun h => by have := (hn ad e).2; omega), Nat.lt_of_lt_of_le (hn ad e).2 h2.size⟩) hl hc hr hlen).mono fun e w2 k => ⟨k.1, laid_on h2 h3 k.2⟩
theorem laid_blk (h : Laid w a F L w1) {g : Nat} {m : Msg} {sv : Value} (hK : MsgBlk w g m sv) (hg : g ∉ F) : MsgBlk w1 g m sv := by
  obtain ⟨F1, h1, h2, h3⟩ := h
  exact h2.whole hK hg
/-- From the world behind the parameter's box back to the one ahead of it. -/
theorem laid_box {o : Obj} (h : Laid (w.alloc o) a F L w1) : Laid w a F L w1 :=
  laid_on ((Mod.refl F w).alloc o) (fun x hx => .inl hx) h
theorem box_start {o : Obj} (h : WAt w a L F) : Laid (w.alloc o) a F L (w.alloc o) := Oct.Laid.refl (h.mod (Mod.alloc (Mod.refl [] _) o) (by simp))
theorem box_new (h : WAt w a L F) : w.heap.size ∉ F := fun hf => Nat.lt_irrefl _ (h.lt _ hf)
theorem room_of {A B : List UInt8} (h : (L ++ (A ++ B)).length ≤ 140737488355328) : (L ++ A).length ≤ 140737488355328 ∧ ((L ++ A) ++ B).length ≤ 140737488355328 := by
  rw [← List.append_assoc] at h
  refine ⟨?_, h⟩
  rw [List.length_append] at h
  omega
end
set_option maxHeartbeats 4000000 in
theorem wdone_any (a : Nat) (m : Msg) (sv : Value) (L : List UInt8) (F : List Nat) (w : World) (h : WAt w a L F) (hw : Wide m) (hlen : (L ++ WM.doneB m).length ≤ 140737488355328) :
    Calls Try.prog 55 #[.pointer (some ⟨a, 0, none⟩), .agg (cellsM m sv)] w fun e w' => e = .returned (.tuple #[]) ∧ Laid w a F (L ++ WM.doneB m) w' := by
  have H := Lib.hid h; clear h
  unfold WM.doneB at hlen ⊢
  have HB := Lib.hid hlen; clear hlen
  have HW := Lib.hid hw; clear hw
  unfold cellsM
  go_enter Try.func55, Try.ntmps55
  go_wp2_with fail
  refine (lay_nums (box_start H.out) [m.id, m.origin, m.number] (by simp) rfl rfl (by simp) (by simp [HW.out.id, HW.out.origin, HW.out.number]) HB.out).mono ?_
  rintro e w1 ⟨rfl, hL⟩
  have HL := Lib.hid hL; clear hL
  go_wp2_with fail
  go_end0
  exact ⟨rfl, laid_box HL.out⟩
-- walks
set_option maxHeartbeats 4000000 in
theorem wop_any (a : Nat) (A : Option Addr) (c : Nat) (m : Msg) (L : List UInt8) (F : List Nat) (w : World) (h : WAt w a L F) (hw : Wide m) (hA : IntsAt w A m.stamp) (hn : ∀ ad, A = some ad → ad.block ∉ F ∧ ad.block < w.heap.size) (hl : m.stamp.length ≤ c) (hc : c ≤ 9223372036854775807)
    (hlen : (L ++ WM.opB m).length ≤ 140737488355328) :
    Calls Try.prog 58 #[.pointer (some ⟨a, 0, none⟩), .agg (cellsM m (.slice A m.stamp.length c))] w fun e w' => e = .returned (.tuple #[]) ∧ Laid w a F (L ++ WM.opB m) w' := by
  have HW := Lib.hid hw; clear hw
  have H := Lib.hid h; clear h
  unfold WM.opB WM.p at hlen ⊢
  have HB1 := Lib.hid (room_of hlen).1
  have hB2 := (room_of hlen).2
  have HB2 := Lib.hid (room_of hB2).1
  have HB3 := Lib.hid (room_of hB2).2
  clear hlen hB2
  rw [WM.nums_one] at HB2 HB3 ⊢
  rw [← List.append_assoc, ← List.append_assoc]
  have HA := Lib.hid hA; clear hA
  have HN := Lib.hid hn; clear hn
  go_enter Try.func58, Try.ntmps58
  go_wp2_with fail
  have HS := Lib.hid (show w.heap.size + 1 = (w.alloc (.cells (cellsM m (.slice A m.stamp.length c)) 32)).heap.size by simp)
  have HL := Lib.hid (box_start (o := .cells (cellsM m (.slice A m.stamp.length c)) 32) H.out)
  have HK := Lib.hid (Whole.new w 32 (cellsM m (.slice A m.stamp.length c)))
  have HG := Lib.hid (box_new H.out)
  have HZ := Lib.hid (fun (M : List UInt8) (w2 : World) (h : Laid (w.alloc (.cells (cellsM m (.slice A m.stamp.length c)) 32)) a F M w2) => laid_box h)
  have HA0 := Lib.hid (HA.out.below ((Below.refl _ w).alloc (Nat.le_refl _) (.cells (cellsM m (.slice A m.stamp.length c)) 32)))
  have HN0 := Lib.hid (fun ad e => (⟨(HN.out ad e).1, by have := (HN.out ad e).2; simp; omega⟩ : ad.block ∉ F ∧ ad.block < (w.alloc (.cells (cellsM m (.slice A m.stamp.length c)) 32)).heap.size))
  clear HA HN H
  generalize w.alloc (.cells (cellsM m (.slice A m.stamp.length c)) 32) = w0 at HL HK HZ HA0 HN0 HS ⊢
  have HKn := Lib.hid (laid_blk HL.out HK.out HG.out)
  have c7 : w0.cell? ⟨w.heap.size, 7, none⟩ = some (.string m.path) := HKn.out.cell 7
  clear HKn
  go_still_tail 5, (by kernel_rfl)
  change wpList _ _ _ _ _ w0.drew
  replace HL := Lib.hid (laid_drew HL.out)
  go_wp2_with fail
  refine (lay_text HL.out m.path HW.out.path HB1.out).mono ?_
  rintro e w1 ⟨rfl, hL⟩
  clear HL c7
  have HL := Lib.hid hL; clear hL
  go_wp2_with fail
  have HKn := Lib.hid (laid_blk HL.out HK.out HG.out)
  have c8 : w1.cell? ⟨w.heap.size, 8, none⟩ = some (.int .i64 m.mode) := HKn.out.cell 8
  clear HKn
  go_still_tail 5, (by kernel_rfl)
  change wpList _ _ _ _ _ w1.drew
  replace HL := Lib.hid (laid_drew HL.out)
  go_wp2_with fail
  refine (lay_num HL.out m.mode HW.out.mode HB2.out).mono ?_
  rintro e w2 ⟨rfl, hL⟩
  clear HL c8
  have HL := Lib.hid hL; clear hL
  have HKn := Lib.hid (laid_blk HL.out HK.out HG.out)
  have c13 : w2.cell? ⟨w.heap.size, 13, none⟩ = some (.slice A m.stamp.length c) := HKn.out.cell 13
  clear HKn
  go_wp2_with fail
  refine (lay_stamp HL.out A c m.stamp HA0.out HN0.out hl hc HW.out.stamp HB3.out).mono ?_
  rintro e w3 ⟨rfl, hL⟩
  clear HL c13
  have HL := Lib.hid hL; clear hL
  go_wp2_with fail
  go_end0
  exact ⟨rfl, HZ.out _ _ HL.out⟩
set_option maxHeartbeats 4000000 in
theorem wrecall_any (a : Nat) (A : Option Addr) (c : Nat) (m : Msg) (L : List UInt8) (F : List Nat) (w : World) (h : WAt w a L F) (hw : Wide m) (hA : IntsAt w A m.stamp) (hn : ∀ ad, A = some ad → ad.block ∉ F ∧ ad.block < w.heap.size) (hl : m.stamp.length ≤ c) (hc : c ≤ 9223372036854775807)
    (hlen : (L ++ WM.recallB m).length ≤ 140737488355328) :
    Calls Try.prog 52 #[.pointer (some ⟨a, 0, none⟩), .agg (cellsM m (.slice A m.stamp.length c))] w fun e w' => e = .returned (.tuple #[]) ∧ Laid w a F (L ++ WM.recallB m) w' := by
  have HW := Lib.hid hw; clear hw
  have H := Lib.hid h; clear h
  unfold WM.recallB WM.p at hlen ⊢
  have HB1 := Lib.hid (room_of hlen).1
  have hB2 := (room_of hlen).2
  have HB2 := Lib.hid (room_of hB2).1
  have HB3 := Lib.hid (room_of hB2).2
  clear hlen hB2
  rw [WM.nums_one] at HB1 HB2 HB3 ⊢
  rw [← List.append_assoc, ← List.append_assoc]
  have HA := Lib.hid hA; clear hA
  have HN := Lib.hid hn; clear hn
  go_enter Try.func52, Try.ntmps52
  go_wp2_with fail
  have HS := Lib.hid (show w.heap.size + 1 = (w.alloc (.cells (cellsM m (.slice A m.stamp.length c)) 32)).heap.size by simp)
  have HL := Lib.hid (box_start (o := .cells (cellsM m (.slice A m.stamp.length c)) 32) H.out)
  have HK := Lib.hid (Whole.new w 32 (cellsM m (.slice A m.stamp.length c)))
  have HG := Lib.hid (box_new H.out)
  have HZ := Lib.hid (fun (M : List UInt8) (w2 : World) (h : Laid (w.alloc (.cells (cellsM m (.slice A m.stamp.length c)) 32)) a F M w2) => laid_box h)
  have HA0 := Lib.hid (HA.out.below ((Below.refl _ w).alloc (Nat.le_refl _) (.cells (cellsM m (.slice A m.stamp.length c)) 32)))
  have HN0 := Lib.hid (fun ad e => (⟨(HN.out ad e).1, by have := (HN.out ad e).2; simp; omega⟩ : ad.block ∉ F ∧ ad.block < (w.alloc (.cells (cellsM m (.slice A m.stamp.length c)) 32)).heap.size))
  clear HA HN H
  generalize w.alloc (.cells (cellsM m (.slice A m.stamp.length c)) 32) = w0 at HL HK HZ HA0 HN0 HS ⊢
  have HKn := Lib.hid (laid_blk HL.out HK.out HG.out)
  have c10 : w0.cell? ⟨w.heap.size, 10, none⟩ = some (.int .i64 m.id) := HKn.out.cell 10
  clear HKn
  go_still_tail 5, (by kernel_rfl)
  change wpList _ _ _ _ _ w0.drew
  replace HL := Lib.hid (laid_drew HL.out)
  go_wp2_with fail
  refine (lay_num HL.out m.id HW.out.id HB1.out).mono ?_
  rintro e w1 ⟨rfl, hL⟩
  clear HL c10
  have HL := Lib.hid hL; clear hL
  go_wp2_with fail
  have HKn := Lib.hid (laid_blk HL.out HK.out HG.out)
  have c7 : w1.cell? ⟨w.heap.size, 7, none⟩ = some (.string m.path) := HKn.out.cell 7
  clear HKn
  go_still_tail 5, (by kernel_rfl)
  change wpList _ _ _ _ _ w1.drew
  replace HL := Lib.hid (laid_drew HL.out)
  go_wp2_with fail
  refine (lay_text HL.out m.path HW.out.path HB2.out).mono ?_
  rintro e w2 ⟨rfl, hL⟩
  clear HL c7
  have HL := Lib.hid hL; clear hL
  have HKn := Lib.hid (laid_blk HL.out HK.out HG.out)
  have c14 : w2.cell? ⟨w.heap.size, 14, none⟩ = some (.int .i64 m.origin) := HKn.out.cell 14
  have c15 : w2.cell? ⟨w.heap.size, 15, none⟩ = some (.int .i64 m.number) := HKn.out.cell 15
  clear HKn
  go_wp2_with fail
  refine (lay_nums HL.out [m.origin, m.number] rfl rfl rfl (by simp) (by simp [HW.out.origin, HW.out.number]) HB3.out).mono ?_
  rintro e w3 ⟨rfl, hL⟩
  clear HL c14 c15
  have HL := Lib.hid hL; clear hL
  go_wp2_with fail
  go_end0
  exact ⟨rfl, HZ.out _ _ HL.out⟩
set_option maxHeartbeats 4000000 in
theorem wreply_any (a : Nat) (A : Option Addr) (c : Nat) (m : Msg) (L : List UInt8) (F : List Nat) (w : World) (h : WAt w a L F) (hw : Wide m) (hA : IntsAt w A m.stamp) (hn : ∀ ad, A = some ad → ad.block ∉ F ∧ ad.block < w.heap.size) (hl : m.stamp.length ≤ c) (hc : c ≤ 9223372036854775807)
    (hlen : (L ++ WM.replyB m).length ≤ 140737488355328) :
    Calls Try.prog 49 #[.pointer (some ⟨a, 0, none⟩), .agg (cellsM m (.slice A m.stamp.length c))] w fun e w' => e = .returned (.tuple #[]) ∧ Laid w a F (L ++ WM.replyB m) w' := by
  have HW := Lib.hid hw; clear hw
  have H := Lib.hid h; clear h
  unfold WM.replyB at hlen ⊢
  have HB1 := Lib.hid (room_of hlen).1
  by_cases h0 : m.code = 0
  · rw [if_pos h0] at hlen ⊢
    have hB2 := (room_of hlen).2
    have HB2 := Lib.hid (room_of hB2).1
    have HB3 := Lib.hid (room_of hB2).2
    clear hlen hB2
    rw [← List.append_assoc, ← List.append_assoc]
    have d0 : (m.code == 0) = true := by simpa using h0
    clear h0
    have c3 : (w.alloc (.cells (cellsM m (.slice A m.stamp.length c)) 32)).cell? ⟨w.heap.size, 3, none⟩ = some (.int .i64 m.boot) := (Whole.new w 32 (cellsM m (.slice A m.stamp.length c))).cell 3
    have c4 : (w.alloc (.cells (cellsM m (.slice A m.stamp.length c)) 32)).cell? ⟨w.heap.size, 4, none⟩ = some (.int .i64 m.seq) := (Whole.new w 32 (cellsM m (.slice A m.stamp.length c))).cell 4
    have c12 : (w.alloc (.cells (cellsM m (.slice A m.stamp.length c)) 32)).cell? ⟨w.heap.size, 12, none⟩ = some (.int .i64 m.code) := (Whole.new w 32 (cellsM m (.slice A m.stamp.length c))).cell 12
    have HA := Lib.hid hA; clear hA
    have HN := Lib.hid hn; clear hn
    go_enter Try.func49, Try.ntmps49
    go_wp2_with fail
    clear c3 c4 c12
    have HS := Lib.hid (show w.heap.size + 1 = (w.alloc (.cells (cellsM m (.slice A m.stamp.length c)) 32)).heap.size by simp)
    have HL := Lib.hid (box_start (o := .cells (cellsM m (.slice A m.stamp.length c)) 32) H.out)
    have HK := Lib.hid (Whole.new w 32 (cellsM m (.slice A m.stamp.length c)))
    have HG := Lib.hid (box_new H.out)
    have HZ := Lib.hid (fun (M : List UInt8) (w2 : World) (h : Laid (w.alloc (.cells (cellsM m (.slice A m.stamp.length c)) 32)) a F M w2) => laid_box h)
    have HA0 := Lib.hid (HA.out.below ((Below.refl _ w).alloc (Nat.le_refl _) (.cells (cellsM m (.slice A m.stamp.length c)) 32)))
    have HN0 := Lib.hid (fun ad e => (⟨(HN.out ad e).1, by have := (HN.out ad e).2; simp; omega⟩ : ad.block ∉ F ∧ ad.block < (w.alloc (.cells (cellsM m (.slice A m.stamp.length c)) 32)).heap.size))
    clear HA HN H
    generalize w.alloc (.cells (cellsM m (.slice A m.stamp.length c)) 32) = w0 at HL HK HZ HA0 HN0 HS ⊢
    refine (lay_nums HL.out [m.boot, m.seq, m.code] HS.out rfl rfl (by simp) (by simp [HW.out.boot, HW.out.seq, HW.out.code]) HB1.out).mono ?_
    rintro e w1 ⟨rfl, hL⟩
    clear HL
    have HL := Lib.hid hL; clear hL
    have HKn := Lib.hid (laid_blk HL.out HK.out HG.out)
    have c12 : w1.cell? ⟨w.heap.size, 12, none⟩ = some (.int .i64 m.code) := HKn.out.cell 12
    have c10 : w1.cell? ⟨w.heap.size, 10, none⟩ = some (.int .i64 m.id) := HKn.out.cell 10
    have c9 : w1.cell? ⟨w.heap.size, 9, none⟩ = some (.int .i64 m.term) := HKn.out.cell 9
    clear HKn
    go_wp2_with fail
    refine (lay_nums HL.out [m.id, m.term] rfl rfl rfl (by simp) (by simp [HW.out.id, HW.out.term]) HB2.out).mono ?_
    rintro e w2 ⟨rfl, hL⟩
    clear HL c12 c10 c9
    have HL := Lib.hid hL; clear hL
    have HKn := Lib.hid (laid_blk HL.out HK.out HG.out)
    have c13 : w2.cell? ⟨w.heap.size, 13, none⟩ = some (.slice A m.stamp.length c) := HKn.out.cell 13
    clear HKn
    go_wp2_with fail
    refine (lay_stamp HL.out A c m.stamp HA0.out HN0.out hl hc HW.out.stamp HB3.out).mono ?_
    rintro e w3 ⟨rfl, hL⟩
    clear HL c13
    have HL := Lib.hid hL; clear hL
    go_wp2_with fail
    go_end0
    exact ⟨rfl, HZ.out _ _ HL.out⟩
  · rw [if_neg h0, List.append_nil]
    clear hlen
    have d0 : (m.code == 0) = false := by simpa using h0
    clear h0
    have c3 : (w.alloc (.cells (cellsM m (.slice A m.stamp.length c)) 32)).cell? ⟨w.heap.size, 3, none⟩ = some (.int .i64 m.boot) := (Whole.new w 32 (cellsM m (.slice A m.stamp.length c))).cell 3
    have c4 : (w.alloc (.cells (cellsM m (.slice A m.stamp.length c)) 32)).cell? ⟨w.heap.size, 4, none⟩ = some (.int .i64 m.seq) := (Whole.new w 32 (cellsM m (.slice A m.stamp.length c))).cell 4
    have c12 : (w.alloc (.cells (cellsM m (.slice A m.stamp.length c)) 32)).cell? ⟨w.heap.size, 12, none⟩ = some (.int .i64 m.code) := (Whole.new w 32 (cellsM m (.slice A m.stamp.length c))).cell 12
    have HA := Lib.hid hA; clear hA
    have HN := Lib.hid hn; clear hn
    go_enter Try.func49, Try.ntmps49
    go_wp2_with fail
    clear c3 c4 c12
    have HS := Lib.hid (show w.heap.size + 1 = (w.alloc (.cells (cellsM m (.slice A m.stamp.length c)) 32)).heap.size by simp)
    have HL := Lib.hid (box_start (o := .cells (cellsM m (.slice A m.stamp.length c)) 32) H.out)
    have HK := Lib.hid (Whole.new w 32 (cellsM m (.slice A m.stamp.length c)))
    have HG := Lib.hid (box_new H.out)
    have HZ := Lib.hid (fun (M : List UInt8) (w2 : World) (h : Laid (w.alloc (.cells (cellsM m (.slice A m.stamp.length c)) 32)) a F M w2) => laid_box h)
    have HA0 := Lib.hid (HA.out.below ((Below.refl _ w).alloc (Nat.le_refl _) (.cells (cellsM m (.slice A m.stamp.length c)) 32)))
    have HN0 := Lib.hid (fun ad e => (⟨(HN.out ad e).1, by have := (HN.out ad e).2; simp; omega⟩ : ad.block ∉ F ∧ ad.block < (w.alloc (.cells (cellsM m (.slice A m.stamp.length c)) 32)).heap.size))
    clear HA HN H
    generalize w.alloc (.cells (cellsM m (.slice A m.stamp.length c)) 32) = w0 at HL HK HZ HA0 HN0 HS ⊢
    refine (lay_nums HL.out [m.boot, m.seq, m.code] HS.out rfl rfl (by simp) (by simp [HW.out.boot, HW.out.seq, HW.out.code]) HB1.out).mono ?_
    rintro e w1 ⟨rfl, hL⟩
    clear HL
    have HL := Lib.hid hL; clear hL
    have HKn := Lib.hid (laid_blk HL.out HK.out HG.out)
    have c12 : w1.cell? ⟨w.heap.size, 12, none⟩ = some (.int .i64 m.code) := HKn.out.cell 12
    clear HKn
    go_wp2_with fail
    go_end0
    exact ⟨rfl, HZ.out _ _ HL.out⟩
set_option maxHeartbeats 4000000 in
theorem wask_any (a : Nat) (A : Option Addr) (c : Nat) (m : Msg) (L : List UInt8) (F : List Nat) (w : World) (h : WAt w a L F) (hw : Wide m) (hA : IntsAt w A m.stamp) (hn : ∀ ad, A = some ad → ad.block ∉ F ∧ ad.block < w.heap.size) (hl : m.stamp.length ≤ c) (hc : c ≤ 9223372036854775807)
    (hlen : (L ++ WM.askB m).length ≤ 140737488355328) :
    Calls Try.prog 46 #[.pointer (some ⟨a, 0, none⟩), .agg (cellsM m (.slice A m.stamp.length c))] w fun e w' => e = .returned (.tuple #[]) ∧ Laid w a F (L ++ WM.askB m) w' := by
  have HW := Lib.hid hw; clear hw
  have H := Lib.hid h; clear h
  unfold WM.askB WM.p at hlen ⊢
  have HB1 := Lib.hid (room_of hlen).1
  by_cases h1 : m.verb = 1
  · rw [if_pos h1] at hlen ⊢
    have hB2 := (room_of hlen).2
    have HB2 := Lib.hid (room_of hB2).1
    have HB3 := Lib.hid (room_of hB2).2
    clear hlen hB2
    rw [← List.append_assoc, ← List.append_assoc]
    have d1 : (m.verb == 1) = true := by simpa using h1
    clear h1
    have c3 : (w.alloc (.cells (cellsM m (.slice A m.stamp.length c)) 32)).cell? ⟨w.heap.size, 3, none⟩ = some (.int .i64 m.boot) := (Whole.new w 32 (cellsM m (.slice A m.stamp.length c))).cell 3
    have c4 : (w.alloc (.cells (cellsM m (.slice A m.stamp.length c)) 32)).cell? ⟨w.heap.size, 4, none⟩ = some (.int .i64 m.seq) := (Whole.new w 32 (cellsM m (.slice A m.stamp.length c))).cell 4
    have c5 : (w.alloc (.cells (cellsM m (.slice A m.stamp.length c)) 32)).cell? ⟨w.heap.size, 5, none⟩ = some (.int .i64 m.low) := (Whole.new w 32 (cellsM m (.slice A m.stamp.length c))).cell 5
    have c6 : (w.alloc (.cells (cellsM m (.slice A m.stamp.length c)) 32)).cell? ⟨w.heap.size, 6, none⟩ = some (.int .i64 m.verb) := (Whole.new w 32 (cellsM m (.slice A m.stamp.length c))).cell 6
    have HA := Lib.hid hA; clear hA
    have HN := Lib.hid hn; clear hn
    go_enter Try.func46, Try.ntmps46
    go_wp2_with fail
    clear c3 c4 c5 c6
    have HS := Lib.hid (show w.heap.size + 1 = (w.alloc (.cells (cellsM m (.slice A m.stamp.length c)) 32)).heap.size by simp)
    have HL := Lib.hid (box_start (o := .cells (cellsM m (.slice A m.stamp.length c)) 32) H.out)
    have HK := Lib.hid (Whole.new w 32 (cellsM m (.slice A m.stamp.length c)))
    have HG := Lib.hid (box_new H.out)
    have HZ := Lib.hid (fun (M : List UInt8) (w2 : World) (h : Laid (w.alloc (.cells (cellsM m (.slice A m.stamp.length c)) 32)) a F M w2) => laid_box h)
    have HA0 := Lib.hid (HA.out.below ((Below.refl _ w).alloc (Nat.le_refl _) (.cells (cellsM m (.slice A m.stamp.length c)) 32)))
    have HN0 := Lib.hid (fun ad e => (⟨(HN.out ad e).1, by have := (HN.out ad e).2; simp; omega⟩ : ad.block ∉ F ∧ ad.block < (w.alloc (.cells (cellsM m (.slice A m.stamp.length c)) 32)).heap.size))
    clear HA HN H
    generalize w.alloc (.cells (cellsM m (.slice A m.stamp.length c)) 32) = w0 at HL HK HZ HA0 HN0 HS ⊢
    refine (lay_nums HL.out [m.boot, m.seq, m.low, m.verb] HS.out rfl rfl (by simp) (by simp [HW.out.boot, HW.out.seq, HW.out.low, HW.out.verb]) HB1.out).mono ?_
    rintro e w1 ⟨rfl, hL⟩
    clear HL
    have HL := Lib.hid hL; clear hL
    have HKn := Lib.hid (laid_blk HL.out HK.out HG.out)
    have c6 : w1.cell? ⟨w.heap.size, 6, none⟩ = some (.int .i64 m.verb) := HKn.out.cell 6
    have c7 : w1.cell? ⟨w.heap.size, 7, none⟩ = some (.string m.path) := HKn.out.cell 7
    clear HKn
    go_wp2_with fail
    go_still_tail 5, (by kernel_rfl)
    change wpList _ _ _ _ _ w1.drew
    replace HL := Lib.hid (laid_drew HL.out)
    go_wp2_with fail
    refine (lay_text HL.out m.path HW.out.path HB2.out).mono ?_
    rintro e w2 ⟨rfl, hL⟩
    clear HL c6 c7
    have HL := Lib.hid hL; clear hL
    have HKn := Lib.hid (laid_blk HL.out HK.out HG.out)
    have c8 : w2.cell? ⟨w.heap.size, 8, none⟩ = some (.int .i64 m.mode) := HKn.out.cell 8
    have c9 : w2.cell? ⟨w.heap.size, 9, none⟩ = some (.int .i64 m.term) := HKn.out.cell 9
    clear HKn
    go_wp2_with fail
    refine (lay_nums HL.out [m.mode, m.term] rfl rfl rfl (by simp) (by simp [HW.out.mode, HW.out.term]) HB3.out).mono ?_
    rintro e w3 ⟨rfl, hL⟩
    clear HL c8 c9
    have HL := Lib.hid hL; clear hL
    go_wp2_with fail
    go_end0
    exact ⟨rfl, HZ.out _ _ HL.out⟩
  rw [if_neg h1] at hlen ⊢
  have d1 : (m.verb == 1) = false := by simpa using h1
  clear h1
  by_cases h2 : m.verb = 2
  · rw [if_pos h2] at hlen ⊢
    have hB2 := (room_of hlen).2
    have HB2 := Lib.hid (room_of hB2).1
    have HB3 := Lib.hid (room_of hB2).2
    clear hlen hB2
    rw [← List.append_assoc, ← List.append_assoc]
    have d2 : (m.verb == 2) = true := by simpa using h2
    clear h2
    have c3 : (w.alloc (.cells (cellsM m (.slice A m.stamp.length c)) 32)).cell? ⟨w.heap.size, 3, none⟩ = some (.int .i64 m.boot) := (Whole.new w 32 (cellsM m (.slice A m.stamp.length c))).cell 3
    have c4 : (w.alloc (.cells (cellsM m (.slice A m.stamp.length c)) 32)).cell? ⟨w.heap.size, 4, none⟩ = some (.int .i64 m.seq) := (Whole.new w 32 (cellsM m (.slice A m.stamp.length c))).cell 4
    have c5 : (w.alloc (.cells (cellsM m (.slice A m.stamp.length c)) 32)).cell? ⟨w.heap.size, 5, none⟩ = some (.int .i64 m.low) := (Whole.new w 32 (cellsM m (.slice A m.stamp.length c))).cell 5
    have c6 : (w.alloc (.cells (cellsM m (.slice A m.stamp.length c)) 32)).cell? ⟨w.heap.size, 6, none⟩ = some (.int .i64 m.verb) := (Whole.new w 32 (cellsM m (.slice A m.stamp.length c))).cell 6
    have HA := Lib.hid hA; clear hA
    have HN := Lib.hid hn; clear hn
    go_enter Try.func46, Try.ntmps46
    go_wp2_with fail
    clear c3 c4 c5 c6
    have HS := Lib.hid (show w.heap.size + 1 = (w.alloc (.cells (cellsM m (.slice A m.stamp.length c)) 32)).heap.size by simp)
    have HL := Lib.hid (box_start (o := .cells (cellsM m (.slice A m.stamp.length c)) 32) H.out)
    have HK := Lib.hid (Whole.new w 32 (cellsM m (.slice A m.stamp.length c)))
    have HG := Lib.hid (box_new H.out)
    have HZ := Lib.hid (fun (M : List UInt8) (w2 : World) (h : Laid (w.alloc (.cells (cellsM m (.slice A m.stamp.length c)) 32)) a F M w2) => laid_box h)
    have HA0 := Lib.hid (HA.out.below ((Below.refl _ w).alloc (Nat.le_refl _) (.cells (cellsM m (.slice A m.stamp.length c)) 32)))
    have HN0 := Lib.hid (fun ad e => (⟨(HN.out ad e).1, by have := (HN.out ad e).2; simp; omega⟩ : ad.block ∉ F ∧ ad.block < (w.alloc (.cells (cellsM m (.slice A m.stamp.length c)) 32)).heap.size))
    clear HA HN H
    generalize w.alloc (.cells (cellsM m (.slice A m.stamp.length c)) 32) = w0 at HL HK HZ HA0 HN0 HS ⊢
    refine (lay_nums HL.out [m.boot, m.seq, m.low, m.verb] HS.out rfl rfl (by simp) (by simp [HW.out.boot, HW.out.seq, HW.out.low, HW.out.verb]) HB1.out).mono ?_
    rintro e w1 ⟨rfl, hL⟩
    clear HL
    have HL := Lib.hid hL; clear hL
    have HKn := Lib.hid (laid_blk HL.out HK.out HG.out)
    have c6 : w1.cell? ⟨w.heap.size, 6, none⟩ = some (.int .i64 m.verb) := HKn.out.cell 6
    have c9 : w1.cell? ⟨w.heap.size, 9, none⟩ = some (.int .i64 m.term) := HKn.out.cell 9
    have c10 : w1.cell? ⟨w.heap.size, 10, none⟩ = some (.int .i64 m.id) := HKn.out.cell 10
    clear HKn
    go_wp2_with fail
    refine (lay_nums HL.out [m.id, m.term] rfl rfl rfl (by simp) (by simp [HW.out.id, HW.out.term]) HB2.out).mono ?_
    rintro e w2 ⟨rfl, hL⟩
    clear HL c6 c9 c10
    have HL := Lib.hid hL; clear hL
    have HKn := Lib.hid (laid_blk HL.out HK.out HG.out)
    have c11 : w2.cell? ⟨w.heap.size, 11, none⟩ = some (.bool m.fresh) := HKn.out.cell 11
    clear HKn
    go_wp2_with fail
    refine (lay_flag HL.out m.fresh HB3.out).mono ?_
    rintro e w3 ⟨rfl, hL⟩
    clear HL c11
    have HL := Lib.hid hL; clear hL
    go_wp2_with fail
    go_end0
    exact ⟨rfl, HZ.out _ _ HL.out⟩
  rw [if_neg h2] at hlen ⊢
  have d2 : (m.verb == 2) = false := by simpa using h2
  clear h2
  by_cases h3 : m.verb = 3
  · rw [if_pos h3] at hlen ⊢
    have HB2 := Lib.hid (room_of hlen).2
    clear hlen
    rw [WM.nums_one] at HB2 ⊢
    rw [← List.append_assoc]
    have HB2 := Lib.hid HB2.out
    have d3 : (m.verb == 3) = true := by simpa using h3
    clear h3
    have c3 : (w.alloc (.cells (cellsM m (.slice A m.stamp.length c)) 32)).cell? ⟨w.heap.size, 3, none⟩ = some (.int .i64 m.boot) := (Whole.new w 32 (cellsM m (.slice A m.stamp.length c))).cell 3
    have c4 : (w.alloc (.cells (cellsM m (.slice A m.stamp.length c)) 32)).cell? ⟨w.heap.size, 4, none⟩ = some (.int .i64 m.seq) := (Whole.new w 32 (cellsM m (.slice A m.stamp.length c))).cell 4
    have c5 : (w.alloc (.cells (cellsM m (.slice A m.stamp.length c)) 32)).cell? ⟨w.heap.size, 5, none⟩ = some (.int .i64 m.low) := (Whole.new w 32 (cellsM m (.slice A m.stamp.length c))).cell 5
    have c6 : (w.alloc (.cells (cellsM m (.slice A m.stamp.length c)) 32)).cell? ⟨w.heap.size, 6, none⟩ = some (.int .i64 m.verb) := (Whole.new w 32 (cellsM m (.slice A m.stamp.length c))).cell 6
    have HA := Lib.hid hA; clear hA
    have HN := Lib.hid hn; clear hn
    go_enter Try.func46, Try.ntmps46
    go_wp2_with fail
    clear c3 c4 c5 c6
    have HS := Lib.hid (show w.heap.size + 1 = (w.alloc (.cells (cellsM m (.slice A m.stamp.length c)) 32)).heap.size by simp)
    have HL := Lib.hid (box_start (o := .cells (cellsM m (.slice A m.stamp.length c)) 32) H.out)
    have HK := Lib.hid (Whole.new w 32 (cellsM m (.slice A m.stamp.length c)))
    have HG := Lib.hid (box_new H.out)
    have HZ := Lib.hid (fun (M : List UInt8) (w2 : World) (h : Laid (w.alloc (.cells (cellsM m (.slice A m.stamp.length c)) 32)) a F M w2) => laid_box h)
    have HA0 := Lib.hid (HA.out.below ((Below.refl _ w).alloc (Nat.le_refl _) (.cells (cellsM m (.slice A m.stamp.length c)) 32)))
    have HN0 := Lib.hid (fun ad e => (⟨(HN.out ad e).1, by have := (HN.out ad e).2; simp; omega⟩ : ad.block ∉ F ∧ ad.block < (w.alloc (.cells (cellsM m (.slice A m.stamp.length c)) 32)).heap.size))
    clear HA HN H
    generalize w.alloc (.cells (cellsM m (.slice A m.stamp.length c)) 32) = w0 at HL HK HZ HA0 HN0 HS ⊢
    refine (lay_nums HL.out [m.boot, m.seq, m.low, m.verb] HS.out rfl rfl (by simp) (by simp [HW.out.boot, HW.out.seq, HW.out.low, HW.out.verb]) HB1.out).mono ?_
    rintro e w1 ⟨rfl, hL⟩
    clear HL
    have HL := Lib.hid hL; clear hL
    have HKn := Lib.hid (laid_blk HL.out HK.out HG.out)
    have c6 : w1.cell? ⟨w.heap.size, 6, none⟩ = some (.int .i64 m.verb) := HKn.out.cell 6
    have c10 : w1.cell? ⟨w.heap.size, 10, none⟩ = some (.int .i64 m.id) := HKn.out.cell 10
    clear HKn
    go_wp2_with fail
    go_still_tail 5, (by kernel_rfl)
    change wpList _ _ _ _ _ w1.drew
    replace HL := Lib.hid (laid_drew HL.out)
    go_wp2_with fail
    refine (lay_num HL.out m.id HW.out.id HB2.out).mono ?_
    rintro e w2 ⟨rfl, hL⟩
    clear HL c6 c10
    have HL := Lib.hid hL; clear hL
    go_wp2_with fail
    go_end0
    exact ⟨rfl, HZ.out _ _ HL.out⟩
  · rw [if_neg h3, List.append_nil]
    clear hlen
    have d3 : (m.verb == 3) = false := by simpa using h3
    clear h3
    have c3 : (w.alloc (.cells (cellsM m (.slice A m.stamp.length c)) 32)).cell? ⟨w.heap.size, 3, none⟩ = some (.int .i64 m.boot) := (Whole.new w 32 (cellsM m (.slice A m.stamp.length c))).cell 3
    have c4 : (w.alloc (.cells (cellsM m (.slice A m.stamp.length c)) 32)).cell? ⟨w.heap.size, 4, none⟩ = some (.int .i64 m.seq) := (Whole.new w 32 (cellsM m (.slice A m.stamp.length c))).cell 4
    have c5 : (w.alloc (.cells (cellsM m (.slice A m.stamp.length c)) 32)).cell? ⟨w.heap.size, 5, none⟩ = some (.int .i64 m.low) := (Whole.new w 32 (cellsM m (.slice A m.stamp.length c))).cell 5
    have c6 : (w.alloc (.cells (cellsM m (.slice A m.stamp.length c)) 32)).cell? ⟨w.heap.size, 6, none⟩ = some (.int .i64 m.verb) := (Whole.new w 32 (cellsM m (.slice A m.stamp.length c))).cell 6
    have HA := Lib.hid hA; clear hA
    have HN := Lib.hid hn; clear hn
    go_enter Try.func46, Try.ntmps46
    go_wp2_with fail
    clear c3 c4 c5 c6
    have HS := Lib.hid (show w.heap.size + 1 = (w.alloc (.cells (cellsM m (.slice A m.stamp.length c)) 32)).heap.size by simp)
    have HL := Lib.hid (box_start (o := .cells (cellsM m (.slice A m.stamp.length c)) 32) H.out)
    have HK := Lib.hid (Whole.new w 32 (cellsM m (.slice A m.stamp.length c)))
    have HG := Lib.hid (box_new H.out)
    have HZ := Lib.hid (fun (M : List UInt8) (w2 : World) (h : Laid (w.alloc (.cells (cellsM m (.slice A m.stamp.length c)) 32)) a F M w2) => laid_box h)
    have HA0 := Lib.hid (HA.out.below ((Below.refl _ w).alloc (Nat.le_refl _) (.cells (cellsM m (.slice A m.stamp.length c)) 32)))
    have HN0 := Lib.hid (fun ad e => (⟨(HN.out ad e).1, by have := (HN.out ad e).2; simp; omega⟩ : ad.block ∉ F ∧ ad.block < (w.alloc (.cells (cellsM m (.slice A m.stamp.length c)) 32)).heap.size))
    clear HA HN H
    generalize w.alloc (.cells (cellsM m (.slice A m.stamp.length c)) 32) = w0 at HL HK HZ HA0 HN0 HS ⊢
    refine (lay_nums HL.out [m.boot, m.seq, m.low, m.verb] HS.out rfl rfl (by simp) (by simp [HW.out.boot, HW.out.seq, HW.out.low, HW.out.verb]) HB1.out).mono ?_
    rintro e w1 ⟨rfl, hL⟩
    clear HL
    have HL := Lib.hid hL; clear hL
    have HKn := Lib.hid (laid_blk HL.out HK.out HG.out)
    have c6 : w1.cell? ⟨w.heap.size, 6, none⟩ = some (.int .i64 m.verb) := HKn.out.cell 6
    clear HKn
    go_wp2_with fail
    go_end0
    exact ⟨rfl, HZ.out _ _ HL.out⟩
end Go.Proofs.Ytbjemihcbbiiaaa
