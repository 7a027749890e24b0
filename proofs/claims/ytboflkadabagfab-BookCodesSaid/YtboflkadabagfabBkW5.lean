/- The writer's calls of layer 11: a row of numbers, a stamp, a grant. -/
import Derived.Test.YtboflkadabagfabOctetsW1
import Derived.Test.YtboflkadabagfabBkW1
import Derived.StillTailTactics
namespace Go.Proofs.Ytboflkadabagfab
open Go.RowKit
open Oct (WAt Laid)
open BM (Gr Rc Bk g0 r0 b0)
set_option linter.unusedVariables false
set_option linter.unusedSimpArgs false
set_option maxRecDepth 100000
theorem laid_on {w w1 w2 : World} {a : Nat} {M : List UInt8} {F F1 : List Nat} (hM : Mod F w w1) (hF : ∀ x ∈ F1, x ∈ F ∨ w.heap.size ≤ x) (h : Laid w1 a F1 M w2) : Laid w a F M w2 := by
  obtain ⟨F2, k1, k2, k3⟩ := h
  exact ⟨F2, k1, hM.trans k2 hF, fun x hx => (k3 x hx).elim (hF x) (fun hs => .inr (Nat.le_trans hM.size hs))⟩
theorem nums_append (a b : List Int) : WM.nums (a ++ b) = WM.nums a ++ WM.nums b := by
  induction a with
  | nil => rfl
  | cons n a ih => rw [List.cons_append, WM.nums, WM.nums, ih, List.append_assoc]
theorem nums_take {l : List Int} {k : Nat} (h : k < l.length) : WM.nums (l.take (k + 1)) = WM.nums (l.take k) ++ OM.enc (l[k]).toNat := by
  rw [List.take_add_one, List.getElem?_eq_getElem h, nums_append]
  show _ ++ WM.nums [l[k]] = _
  rw [WM.nums_one]
theorem nums_room {l : List Int} {k : Nat} {L : List UInt8} (h : k < l.length) (hl : (L ++ WM.nums l).length ≤ 140737488355328) : ((L ++ WM.nums (l.take k)) ++ OM.enc (l[k]).toNat).length ≤ 140737488355328 := by
  rw [List.append_assoc, ← nums_take h]
  have e : WM.nums l = WM.nums (l.take (k + 1)) ++ WM.nums (l.drop (k + 1)) := by rw [← nums_append, List.take_append_drop]
  rw [e, ← List.append_assoc, List.length_append] at hl
  omega
theorem nums_len9 : ∀ (l : List Int), (∀ x ∈ l, In64 x) → (WM.nums l).length ≤ 9 * l.length
  | [], _ => Nat.zero_le _
  | n :: l, h => by
    have h1 : (OM.enc n.toNat).length ≤ 9 := OM.enc_nine (by have := h n (by simp); unfold In64 at this; omega)
    have h2 := nums_len9 l (fun x hx => h x (by simp [hx]))
    rw [WM.nums, List.length_append, List.length_cons]
    omega
set_option maxHeartbeats 1000000 in
theorem nums_any (a : Nat) (A : Option Addr) (c : Nat) (l : List Int) (L : List UInt8) (F : List Nat) (w : World) (h : WAt w a L F) (hA : IntsAt w A l) (hn : ∀ ad, A = some ad → ad.block ∉ F) (hl : l.length ≤ c) (hc : c ≤ 9223372036854775807) (hr : ∀ x ∈ l, In64 x)
    (hlen : (L ++ WM.nums l).length ≤ 140737488355328) :
    Calls Try.prog 42 #[.pointer (some ⟨a, 0, none⟩), .slice A l.length c] w fun e w' => e = .returned (.tuple #[]) ∧ Laid w a F (L ++ WM.nums l) w' := by
  have H := Lib.hid h; clear h
  have HB := Lib.hid hlen; clear hlen
  have HA := Lib.hid hA; clear hA
  have HN := Lib.hid hn; clear hn
  have HR := Lib.hid hr; clear hr
  go_enter Try.func42, Try.ntmps42
  go_wp2_with fail
  go_loopw [5, 8] (fun _ i wx => ∃ (k : Nat), i = .int .i64 (k : Int) ∧ k ≤ l.length ∧ Laid w a F (L ++ WM.nums (l.take k)) wx) (fun _ i _ => l.length - (intOf i).toNat)
  case atStart => exact ⟨0, rfl, by omega, by rw [List.take_zero]; unfold WM.nums; rw [List.append_nil]; exact Oct.Laid.refl H.out⟩
  case round =>
    obtain ⟨k, rfl, hk, hL⟩ := hrel
    have HL := Lib.hid hL; clear hL
    obtain ⟨F1, hA, hM, hF⟩ := HL.out
    have HA1 := Lib.hid hA; clear hA
    have HM1 := Lib.hid hM; clear hM
    have HF1 := Lib.hid hF; clear hF
    by_cases hlt : k < l.length
    · obtain ⟨b, o, eA, _, hca⟩ := (HA.out.mod HM1.out HN.out) (by omega)
      subst eA
      have ca := hca k l[k] (List.getElem?_eq_getElem hlt)
      clear hca
      have HE := Lib.hid (nums_take hlt)
      have HO := Lib.hid (nums_room hlt HB.out)
      have hx := HR.out l[k] (List.getElem_mem hlt)
      unfold In64 at hx
      generalize l[k] = x at ca HE HO hx
      go_wp2_with (go_at_call 41; refine (Oct.Num_any a x _ F1 _ hx HA1.out HO.out).mono ?_; rintro e w2 ⟨rfl, hl2⟩; have HL2 := Lib.hid hl2; clear hl2)
      go_roundw
      case rel => exact ⟨k + 1, rfl, by omega, by rw [HE.out, ← List.append_assoc]; exact laid_on HM1.out HF1.out HL2.out⟩
      case measure => simp only [intOf]; omega
    · go_wp2_with fail
      go_end0
      refine ⟨rfl, ?_⟩
      have e : l.take k = l := List.take_of_length_le (by omega)
      rw [e] at HL
      exact HL.out
set_option maxHeartbeats 1000000 in
theorem stamp_any (a : Nat) (A : Option Addr) (c : Nat) (l : List Int) (L : List UInt8) (F : List Nat) (w : World) (h : WAt w a L F) (hA : IntsAt w A l) (hn : ∀ ad, A = some ad → ad.block ∉ F ∧ ad.block < w.heap.size) (hl : l.length ≤ c) (hc : c ≤ 9223372036854775807) (hr : ∀ x ∈ l, In64 x)
    (hlen : (L ++ WM.stampB l).length ≤ 140737488355328) :
    Calls Try.prog 44 #[.pointer (some ⟨a, 0, none⟩), .slice A l.length c] w fun e w' => e = .returned (.tuple #[]) ∧ Laid w a F (L ++ WM.stampB l) w' := by
  have H := Lib.hid h; clear h
  have HE := Lib.hid (show L ++ WM.stampB l = (L ++ OM.enc ((l.length : Int)).toNat) ++ WM.nums l by unfold WM.stampB; rw [List.append_assoc]; rfl)
  rw [HE.out] at hlen
  have HB := Lib.hid hlen
  have HB1 := Lib.hid (show (L ++ OM.enc ((l.length : Int)).toNat).length ≤ 140737488355328 by rw [List.length_append] at hlen; omega)
  clear hlen
  have HA := Lib.hid hA; clear hA
  have HN := Lib.hid hn; clear hn
  have HR := Lib.hid hr; clear hr
  go_enter Try.func44, Try.ntmps44
  go_wp2_with fail
  refine (Oct.Num_any a (l.length : Int) _ F _ (by omega) H.out HB1.out).mono ?_
  rintro e w1 ⟨rfl, F1, hA1, hM1, hF1⟩
  have HA1 := Lib.hid hA1; clear hA1
  have HM1 := Lib.hid hM1; clear hM1
  have HF1 := Lib.hid hF1; clear hF1
  go_wp2_with fail
  refine (nums_any a A c l _ F1 _ HA1.out (HA.out.mod HM1.out (fun ad h => (HN.out ad h).1)) (fun ad h hf => (HF1.out _ hf).elim (HN.out ad h).1 (fun h2 => by have := (HN.out ad h).2; omega)) hl hc HR.out HB.out).mono ?_
  rintro e w2 ⟨rfl, hl2⟩
  have HL2 := Lib.hid hl2; clear hl2
  go_wp2_with fail
  go_end0
  refine ⟨rfl, ?_⟩
  rw [HE.out]
  exact laid_on HM1.out HF1.out HL2.out
section
variable {a : Nat} {F : List Nat} {L : List UInt8} {w w1 : World}
theorem laid_drew (h : Laid w a F L w1) : Laid w a F L w1.drew := by
  obtain ⟨F1, h1, h2, h3⟩ := h
  exact ⟨F1, h1.mod (Mod.drew (Mod.refl [] _)) (by simp), h2.drew, h3⟩
theorem laid_alloc (h : Laid w a F L w1) (o : Obj) : Laid w a F L (w1.alloc o) := by
  obtain ⟨F1, h1, h2, h3⟩ := h
  exact ⟨F1, h1.mod (Mod.alloc (Mod.refl [] _) o) (by simp), h2.alloc o, h3⟩
theorem ints_new (w : World) (l : List Int) : IntsAt (w.alloc (.cells (i64s l).toArray 3)) (some ⟨w.heap.size, 0, none⟩) l := fun h0 =>
  ⟨w.heap.size, 0, rfl, by simp, fun j x hx => by
    have h := (Whole.new w 3 (i64s l).toArray).cell (0 + j)
    rw [h, Nat.zero_add]
    simp [i64s, hx, i64]⟩
theorem lay_num (h : Laid w a F L w1) (n : Int) (hn : In64 n) (hlen : (L ++ OM.enc n.toNat).length ≤ 140737488355328) :
    Calls Try.prog 41 #[.pointer (some ⟨a, 0, none⟩), .int .i64 n] w1 fun e w2 => e = .returned (.tuple #[]) ∧ Laid w a F (L ++ OM.enc n.toNat) w2 := by
  obtain ⟨F1, h1, h2, h3⟩ := h
  exact (Oct.Num_any a n L F1 w1 hn h1 hlen).mono fun e w2 k => ⟨k.1, laid_on h2 h3 k.2⟩
theorem lay_text (h : Laid w a F L w1) (s : ByteArray) (hs : s.size ≤ 140737488351232) (hlen : (L ++ OM.encT s.data.toList).length ≤ 140737488355328) :
    Calls Try.prog 75 #[.pointer (some ⟨a, 0, none⟩), .string s] w1 fun e w2 => e = .returned (.tuple #[]) ∧ Laid w a F (L ++ OM.encT s.data.toList) w2 := by
  obtain ⟨F1, h1, h2, h3⟩ := h
  exact (Oct.Text_any a s L F1 w1 (by omega) h1 hlen).mono fun e w2 k => ⟨k.1, laid_on h2 h3 k.2⟩
theorem lay_nums (h : Laid w a F L w1) (l : List Int) {cs : Array Value} {n g : Nat} (hg : g = w1.heap.size) (hcs : cs = (i64s l).toArray) (hn : n = l.length) (hl : l.length ≤ 9223372036854775807) (hr : ∀ x ∈ l, In64 x) (hlen : (L ++ WM.nums l).length ≤ 140737488355328) :
    Calls Try.prog 42 #[.pointer (some ⟨a, 0, none⟩), .slice (some ⟨g, 0, none⟩) n n] (w1.alloc (.cells cs 3)) fun e w2 => e = .returned (.tuple #[]) ∧ Laid w a F (L ++ WM.nums l) w2 := by
  subst hcs hn hg
  obtain ⟨F1, h1, h2, h3⟩ := laid_alloc h (.cells (i64s l).toArray 3)
  obtain ⟨F0, g1, g2, g3⟩ := h
  have hlt := g1.lt
  have h1' : WAt (w1.alloc (.cells (i64s l).toArray 3)) a L F0 := g1.mod (Mod.alloc (Mod.refl [] _) _) (by simp)
  exact (nums_any a _ l.length l L F0 _ h1' (ints_new w1 l) (fun ad e hf => by
    injection e with e
    subst e
    have := hlt _ hf
    simp at this) (Nat.le_refl _) hl hr hlen).mono fun e w2 k => ⟨k.1, laid_on (g2.alloc _) g3 k.2⟩
theorem lay_stamp (h : Laid w a F L w1) (A : Option Addr) (c : Nat) (l : List Int) (hA : IntsAt w A l) (hn : ∀ ad, A = some ad → ad.block ∉ F ∧ ad.block < w.heap.size) (hl : l.length ≤ c) (hc : c ≤ 9223372036854775807) (hr : ∀ x ∈ l, In64 x)
    (hlen : (L ++ WM.stampB l).length ≤ 140737488355328) :
    Calls Try.prog 44 #[.pointer (some ⟨a, 0, none⟩), .slice A l.length c] w1 fun e w2 => e = .returned (.tuple #[]) ∧ Laid w a F (L ++ WM.stampB l) w2 := by
  obtain ⟨F1, h1, h2, h3⟩ := h
  exact (stamp_any a A c l L F1 w1 h1 (hA.mod h2 (fun ad e => (hn ad e).1)) (fun ad e => ⟨fun hf => (h3 _ hf).elim (hn ad e).1 (fun h => by have := (hn ad e).2; omega), Nat.lt_of_lt_of_le (hn ad e).2 h2.size⟩) hl hc hr hlen).mono fun e w2 k => ⟨k.1, laid_on h2 h3 k.2⟩
/-- From the world behind the parameter's box back to the one ahead of it. -/
theorem laid_box {o : Obj} (h : Laid (w.alloc o) a F L w1) : Laid w a F L w1 :=
  laid_on ((Mod.refl F w).alloc o) (fun x hx => .inl hx) h
theorem box_start {o : Obj} (h : WAt w a L F) : Laid (w.alloc o) a F L (w.alloc o) := Oct.Laid.refl (h.mod (Mod.alloc (Mod.refl [] _) o) (by simp))
theorem box_new (h : WAt w a L F) : w.heap.size ∉ F := fun hf => Nat.lt_irrefl _ (h.lt _ hf)
theorem room_of {A B : List UInt8} (h : (L ++ (A ++ B)).length ≤ 140737488355328) : (L ++ A).length ≤ 140737488355328 ∧ ((L ++ A) ++ B).length ≤ 140737488355328 := by
  rw [← List.append_assoc] at h
  refine ⟨?_, h⟩
  rw [List.length_append] at h
  omega
theorem laid_whole (h : Laid w a F L w1) {g : Nat} {t : TypeId} {cs : Array Value} (hK : Whole w g t cs) (hg : g ∉ F) : Whole w1 g t cs := by
  obtain ⟨F1, h1, h2, h3⟩ := h
  exact h2.whole hK hg
end
set_option maxHeartbeats 4000000 in
theorem wgrant_any (a : Nat) (A : Option Addr) (c : Nat) (g : Gr) (L : List UInt8) (F : List Nat) (w : World) (h : WAt w a L F) (hw : GW g) (hA : Stp w A c g.stamp) (hn : ∀ ad, A = some ad → ad.block ∉ F ∧ ad.block < w.heap.size)
    (hlen : (L ++ BM.grantB g).length ≤ 140737488355328) :
    Calls Try.prog 43 #[.pointer (some ⟨a, 0, none⟩), .agg (six g (.slice A g.stamp.length c))] w fun e w' => e = .returned (.tuple #[]) ∧ Laid w a F (L ++ BM.grantB g) w' := by
  have HW := Lib.hid hw; clear hw
  have H := Lib.hid h; clear h
  unfold BM.grantB at hlen ⊢
  have HB1 := Lib.hid (room_of hlen).1
  have hB2 := (room_of hlen).2
  have HB2 := Lib.hid (room_of hB2).1
  have hB3 := (room_of hB2).2
  have HB3 := Lib.hid (room_of hB3).1
  have HB4 := Lib.hid (room_of hB3).2
  clear hlen hB2 hB3
  rw [← List.append_assoc, ← List.append_assoc, ← List.append_assoc]
  have c0 : (w.alloc (.cells (six g (.slice A g.stamp.length c)) 26)).cell? ⟨w.heap.size, 0, none⟩ = some (.int .i64 g.id) := (Whole.new w 26 (six g (.slice A g.stamp.length c))).cell 0
  have c1 : (w.alloc (.cells (six g (.slice A g.stamp.length c)) 26)).cell? ⟨w.heap.size, 1, none⟩ = some (.int .i64 g.holder) := (Whole.new w 26 (six g (.slice A g.stamp.length c))).cell 1
  have HA := Lib.hid hA; clear hA
  have HN := Lib.hid hn; clear hn
  have HS := Lib.hid (show w.heap.size + 1 = (w.alloc (.cells (six g (.slice A g.stamp.length c)) 26)).heap.size by simp)
  have HL := Lib.hid (box_start (o := .cells (six g (.slice A g.stamp.length c)) 26) H.out)
  have HK := Lib.hid (Whole.new w 26 (six g (.slice A g.stamp.length c)))
  have HG := Lib.hid (box_new H.out)
  have HZ := Lib.hid (fun (M : List UInt8) (w2 : World) (h : Laid (w.alloc (.cells (six g (.slice A g.stamp.length c)) 26)) a F M w2) => laid_box h)
  have HA0 := Lib.hid (HA.out.ints.below ((Below.refl _ w).alloc (Nat.le_refl _) (.cells (six g (.slice A g.stamp.length c)) 26)))
  have HN0 := Lib.hid (fun ad e => (⟨(HN.out ad e).1, by have := (HN.out ad e).2; simp; omega⟩ : ad.block ∉ F ∧ ad.block < (w.alloc (.cells (six g (.slice A g.stamp.length c)) 26)).heap.size))
  go_enter Try.func43, Try.ntmps43
  go_wp2_with fail
  clear c0 c1
  generalize w.alloc (.cells (six g (.slice A g.stamp.length c)) 26) = w0 at HL HK HZ HA0 HN0 HS ⊢
  refine (lay_nums HL.out [g.id, g.holder] HS.out rfl rfl (by simp) (by simp [HW.out.id, HW.out.holder]) HB1.out).mono ?_
  rintro e w1 ⟨rfl, hL⟩
  clear HL
  have HL := Lib.hid hL; clear hL
  have HKn := Lib.hid (laid_whole HL.out HK.out HG.out)
  have c2 : w1.cell? ⟨w.heap.size, 2, none⟩ = some (.string g.path) := HKn.out.cell 2
  clear HKn
  go_wp2_with fail
  go_still_tail 5, (by kernel_rfl)
  change wpList _ _ _ _ _ w1.drew
  replace HL := Lib.hid (laid_drew HL.out)
  go_wp2_with fail
  refine (lay_text HL.out g.path HW.out.path HB2.out).mono ?_
  rintro e w2 ⟨rfl, hL⟩
  clear HL c2
  have HL := Lib.hid hL; clear hL
  have HKn := Lib.hid (laid_whole HL.out HK.out HG.out)
  have c3 : w2.cell? ⟨w.heap.size, 3, none⟩ = some (.int .i64 g.mode) := HKn.out.cell 3
  have c5 : w2.cell? ⟨w.heap.size, 5, none⟩ = some (.int .i64 g.term) := HKn.out.cell 5
  clear HKn
  go_wp2_with fail
  refine (lay_nums HL.out [g.mode, g.term] rfl rfl rfl (by simp) (by simp [HW.out.mode, HW.out.term]) HB3.out).mono ?_
  rintro e w3 ⟨rfl, hL⟩
  clear HL c3 c5
  have HL := Lib.hid hL; clear hL
  have HKn := Lib.hid (laid_whole HL.out HK.out HG.out)
  have c4 : w3.cell? ⟨w.heap.size, 4, none⟩ = some (.slice A g.stamp.length c) := HKn.out.cell 4
  clear HKn
  go_wp2_with fail
  refine (lay_stamp HL.out A c g.stamp HA0.out HN0.out HA.out.le HA.out.cap HA.out.rng HB4.out).mono ?_
  rintro e w4 ⟨rfl, hL⟩
  clear HL c4
  have HL := Lib.hid hL; clear hL
  go_wp2_with fail
  go_end0
  exact ⟨rfl, HZ.out _ _ HL.out⟩
end Go.Proofs.Ytboflkadabagfab
