/- What the statements' own helper does, that lays things down; bytes and bools that came in. -/
import Derived.Test.YtgaimlmpfmbdoaaOctetsW12
namespace Go.Proofs.Ytgaimlmpfmbdoaa
open Go.RowKit
set_option linter.unusedVariables false
theorem add_none (a : Addr) : a.add 0 = a := by unfold Addr.add; simp
theorem WIn.alloc {N : Nat} {K : List Nat} {a : Nat} {L : List UInt8} {w : World} (h : WIn N K a L w) (o : Obj) : WIn N K a L (w.alloc o) := h.below ((Below.refl _ w).alloc (Nat.le_refl _) o)
theorem Keeps.trans {N : Nat} {K : List Nat} {w w1 w2 : World} (h : Keeps N K w w1) (k : Keeps N K w1 w2) (hK : ∀ x ∈ K, x < w.heap.size) : Keeps N K w w2 := by
  obtain ⟨F, h1, h2⟩ := h
  obtain ⟨G, k1, k2⟩ := k
  exact ⟨F ++ G, (h1.mono (G := F ++ G) (fun x hx => .inl (by simp [hx]))).trans k1 (fun x hx => .inl (by simp [hx])), fun x hx => by
    rcases List.mem_append.1 hx with h | h
    · exact h2 x h
    · exact k2 x h⟩
theorem Keeps.alloc {N : Nat} {K : List Nat} {w w1 : World} (h : Keeps N K w w1) (o : Obj) : Keeps N K w (w1.alloc o) := by
  obtain ⟨F, h1, h2⟩ := h
  exact ⟨F, h1.alloc o, h2⟩
theorem things_take {xs : List Thing} {k : Nat} (h : k < xs.length) : things (xs.take (k + 1)) = things (xs.take k) ++ encThing xs[k] := by
  rw [List.take_add_one, List.getElem?_eq_getElem h]
  exact things_snoc _ _
theorem things_le (xs : List Thing) (k : Nat) : (things (xs.take k)).length ≤ (things xs).length := by
  have e : things xs = things (xs.take k) ++ things (xs.drop k) := by
    unfold things
    rw [← List.flatMap_append, List.take_append_drop]
  rw [e, List.length_append]
  omega
theorem things_room {L : List UInt8} {xs : List Thing} {k : Nat} (h : k < xs.length) (hl : (L ++ things xs).length ≤ 140737488355328) : ((L ++ things (xs.take k)) ++ encThing xs[k]).length ≤ 140737488355328 := by
  have h1 := things_le xs (k + 1)
  rw [things_take h, List.length_append] at h1
  rw [List.length_append] at hl
  rw [List.length_append, List.length_append]
  omega
theorem enc_text {x : Thing} (h : x.t = true) : encThing x = OM.encT x.s.data.toList := by unfold encThing; rw [if_pos h]
theorem enc_num {x : Thing} (h : x.t = false) : encThing x = OM.enc x.n.toNat := by unfold encThing; rw [if_neg (by rw [h]; decide)]
set_option maxRecDepth 100000 in
set_option maxHeartbeats 4000000 in
theorem lawlay_any {N : Nat} {K : List Nat} {a : Nat} {L : List UInt8} {w : World} {A : Option Addr} {xs : List Thing} (c : Nat) (h : WIn N K a L w) (hN : N ≤ w.heap.size) (hK : ∀ x ∈ K, x < w.heap.size) (hT : ThingsAt N w A xs)
    (hlen : xs.length ≤ 9223372036854775807) (hF : ∀ x ∈ xs, Fair x) (hroom : (L ++ things xs).length ≤ 140737488355328) :
    Calls Try.prog 17 #[.pointer (some ⟨a, 0, none⟩), .slice A xs.length c] w fun e w' => e = .returned (.tuple #[]) ∧ WIn N K a (L ++ things xs) w' ∧ Keeps N K w w' := by
  have HW := Lib.hid h; clear h
  have HT := Lib.hid hT; clear hT
  have HF := Lib.hid hF; clear hF
  have HM := Lib.hid hroom; clear hroom
  have HK := Lib.hid hK; clear hK
  go_enter Try.func17, Try.ntmps17
  go_wp2_with fail
  go_loopw [8] (fun i wx => ∃ k : Nat, i = .int .i64 (k : Int) ∧ k ≤ xs.length ∧ WIn N K a (L ++ things (xs.take k)) wx ∧ Keeps N K w wx) (fun i _ => xs.length - (intOf i).toNat)
  case atStart => exact ⟨0, rfl, by omega, by rw [List.take_zero]; show WIn N K a (L ++ []) w; rw [List.append_nil]; exact HW.out, Keeps.refl _ _ _⟩
  case round =>
    obtain ⟨k, rfl, hk, hW, hKp⟩ := hrel
    have HX := Lib.hid hW; have HP := Lib.hid hKp; clear hW hKp
    by_cases hlt : k < xs.length
    · obtain ⟨b, o, hA, hb, hc⟩ := HT.out.below (HP.out.belowN hN) (by omega)
      subst hA
      obtain ⟨c0, c1, c2⟩ := hc k xs[k] (List.getElem?_eq_getElem hlt)
      have hfair := HF.out xs[k] (List.getElem_mem hlt)
      have hr := things_room hlt HM.out
      have hsz : w.heap.size ≤ wr.heap.size := HP.out.size
      clear hc
      obtain ⟨hf1, hf2⟩ := hfair
      have HS := Lib.hid (things_take hlt)
      generalize hx : xs[k] = x at c0 c1 c2 hf1 hf2 hr HS
      have HE := Lib.hid hr; clear hr hx
      obtain ⟨t, n, s⟩ := x
      simp only at c0 c1 c2 hf1 hf2
      cases t with
      | true =>
        go_wp2_with fail
        refine (Text_in s (HX.out.alloc _) (by simp; omega) (fun x hx => by have h1 := HK.out x hx; simp; omega) hf2 (by have h1 := HE.out; rw [enc_text rfl] at h1; exact h1)).mono ?_
        rintro e w2 ⟨rfl, h1, h2⟩
        have H1 := Lib.hid h1; have H2 := Lib.hid h2; clear h1 h2
        go_wp2_with fail
        go_roundw
        case rel => exact ⟨k + 1, rfl, by omega, by rw [HS.out, ← List.append_assoc, enc_text rfl]; exact H1.out, (HP.out.alloc _).trans H2.out HK.out⟩
        case measure => simp only [intOf]; omega
      | false =>
        go_wp2_with fail
        refine (Num_in n (HX.out.alloc _) (by simp; omega) (fun x hx => by have h1 := HK.out x hx; simp; omega) hf1 (by have h1 := HE.out; rw [enc_num rfl] at h1; exact h1)).mono ?_
        rintro e w2 ⟨rfl, h1, h2⟩
        have H1 := Lib.hid h1; have H2 := Lib.hid h2; clear h1 h2
        go_wp2_with fail
        go_roundw
        case rel => exact ⟨k + 1, rfl, by omega, by rw [HS.out, ← List.append_assoc, enc_num rfl]; exact H1.out, (HP.out.alloc _).trans H2.out HK.out⟩
        case measure => simp only [intOf]; omega
    · go_wp2_with fail
      go_end0
      have e : xs.take k = xs := List.take_of_length_le (by omega)
      rw [e] at HX
      exact ⟨rfl, HX.out, HP.out⟩
section
open Go.ChangeShapes Go.WideShapes Go.ChangeAt Go.Deep
theorem cells_byte : Try.prog.cellsOf 5 = 1 := by kernel_rfl
theorem bytes_byte : Try.prog.bytesOf 5 = 1 := by kernel_rfl
/-- Bytes that came in. -/
theorem open_bytes {H : Type} {enc : TypeId × Value → H} {W : World} {base : Nat} {v : Value} {d : DataW H} {p : List MemPlace} {ts : List TypeId} {ds : List (DataW H)} {j : Nat}
    (hv : Value.okWide Try.prog W .any base 28 v) (h : DataW.Trod enc Try.prog W 0 (fun _ => true) true 28 v d p)
    (hw : (DataW.weightsEach Try.prog ts ds).all (· ≤ reachBytes) = true) (ht : ts[j]? = some 28) (hd : ds[j]? = some d) :
    ∃ A c xs, v = .slice A xs.length c ∧ BytesAt W A xs ∧ xs.length ≤ c ∧ c ≤ 140737488351232 := by
  obtain ⟨A, len, cap, rfl⟩ := okWide_slice Try.underlying28 hv
  obtain ⟨fuel, hf⟩ := h
  rcases open_slice Try.underlying28 hf with ⟨hcs, hx⟩ | ⟨a, len', cap', m, n, D, Pl, hcs, _, hl, hm, hmm, hx, hi⟩
  · simp [Value.cells] at hcs
    obtain ⟨rfl, rfl, rfl⟩ := hcs
    exact ⟨none, 0, [], rfl, BytesAt.nil _ _, Nat.le_refl _, by omega⟩
  · simp [Value.cells] at hcs
    obtain ⟨rfl, rfl, rfl⟩ := hcs
    simp only [Prod.mk.injEq] at hx
    obtain ⟨rfl, _⟩ := hx
    have hmc : m = cap := by simpa using hmm
    subst hmc
    have hcap := sized_slice hw ht hd Try.underlying28
    rw [bytes_byte] at hcap
    simp only [List.length_map, List.length_range] at hcap
    obtain ⟨xs, hxl, hxs⟩ := list_of (Q := fun i (x : UInt8) => W.cell? (a.add i) = some (u8 x)) len (fun i hil => by
      obtain ⟨cs, hc, ht'⟩ := hi i (by omega)
      rw [cells_byte, Nat.mul_one] at hc
      obtain ⟨k, e, _, hk⟩ := DataW.trod_int Try.underlying5 ht'
      obtain ⟨_, hcl, hat⟩ := World.cells?_some hc
      have hk' : 0 ≤ k ∧ k ≤ 255 := by simpa [Lit.wf, IntKind.min, IntKind.max, IntKind.signed, IntKind.bits] using hk
      refine ⟨OM.by8 k.toNat, ?_⟩
      have h0 := hat 0 (by decide)
      rw [e, add_none] at h0
      rw [h0]
      unfold u8
      rw [OM.by8_nat (by omega)]
      show some (Value.int .u8 k) = _
      rw [show ((k.toNat : Nat) : Int) = k by omega])
    have hreach : reachBytes = 140737488351232 := rfl
    refine ⟨some a, m, xs, by rw [hxl], fun h0 => ?_, by omega, by omega⟩
    obtain ⟨b, o, sp⟩ := a
    have c0 := hxs 0 xs[0] (List.getElem?_eq_getElem h0)
    have hsp : sp = none := by simpa [Addr.add] using World.cell?_spot c0
    subst hsp
    have hlt : b < W.heap.size := by
      have := World.block_lt_of_cell? W _ c0
      simpa [Addr.add] using this
    refine ⟨b, o, rfl, hlt, fun j x hx => ?_⟩
    have c1 := hxs j x hx
    rw [Addr.add_lit] at c1
    exact c1
/-- A list of bools that reads as xs. -/
def BoolsAt (N : Nat) (w : World) (A : Option Addr) (xs : List Bool) : Prop :=
  0 < xs.length → ∃ b o, A = some ⟨b, o, none⟩ ∧ b < N ∧ ∀ j x, xs[j]? = some x → w.cell? ⟨b, o + j, none⟩ = some (.bool x)
theorem BoolsAt.below {N : Nat} {w w' : World} {A : Option Addr} {xs : List Bool} (h : BoolsAt N w A xs) (hb : Below N w w') : BoolsAt N w' A xs := fun h0 => by
  obtain ⟨b, o, e, hlt, hc⟩ := h h0
  exact ⟨b, o, e, hlt, fun j x hx => (hb.cell (p := ⟨b, o + j, none⟩) hlt).trans (hc j x hx)⟩
theorem open_bools {H : Type} {enc : TypeId × Value → H} {W : World} {base : Nat} {v : Value} {d : DataW H} {p : List MemPlace}
    (hv : Value.okWide Try.prog W .any base 50 v) (h : DataW.Trod enc Try.prog W 0 (fun _ => true) true 50 v d p) :
    ∃ A c xs, v = .slice A xs.length c ∧ BoolsAt W.heap.size W A xs ∧ xs.length ≤ c ∧ c ≤ 9223372036854775807 := by
  obtain ⟨A, len, cap, rfl⟩ := okWide_slice Try.underlying50 hv
  obtain ⟨fuel, hf⟩ := h
  rcases open_slice Try.underlying50 hf with ⟨hcs, hx⟩ | ⟨a, len', cap', m, n, D, Pl, hcs, _, hl, hm, hmm, hx, hi⟩
  · simp [Value.cells] at hcs
    obtain ⟨rfl, rfl, rfl⟩ := hcs
    exact ⟨none, 0, [], rfl, fun h => absurd h (Nat.lt_irrefl 0), Nat.le_refl _, by omega⟩
  · simp [Value.cells] at hcs
    obtain ⟨rfl, rfl, rfl⟩ := hcs
    have hmc : m = cap := by simpa using hmm
    subst hmc
    obtain ⟨xs, hxl, hxs⟩ := list_of (Q := fun i (x : Bool) => W.cell? (a.add i) = some (.bool x)) len (fun i hil => by
      obtain ⟨cs, hc, ht'⟩ := hi i (by omega)
      rw [cells_bool, Nat.mul_one] at hc
      obtain ⟨k, e, _⟩ := DataW.trod_bool Try.underlying4 ht'
      obtain ⟨_, hcl, hat⟩ := World.cells?_some hc
      have h0 := hat 0 (by decide)
      rw [e, add_none] at h0
      exact ⟨k, h0⟩)
    refine ⟨some a, m, xs, by rw [hxl], fun h0 => ?_, by omega, by unfold maxLen at hm; omega⟩
    obtain ⟨b, o, sp⟩ := a
    have c0 := hxs 0 xs[0] (List.getElem?_eq_getElem h0)
    have hsp : sp = none := by simpa [Addr.add] using World.cell?_spot c0
    subst hsp
    have hlt : b < W.heap.size := by
      have := World.block_lt_of_cell? W _ c0
      simpa [Addr.add] using this
    refine ⟨b, o, rfl, hlt, fun j x hx => ?_⟩
    have c1 := hxs j x hx
    rw [Addr.add_lit] at c1
    exact c1
end
end Go.Proofs.Ytgaimlmpfmbdoaa
