/- The document's sector of a part. -/
import Derived.Test.YtlnahmgcjaodkaaScW2
import Derived.Test.YtlnahmgcjaodkaaScApp
namespace Go.Proofs.Ytlnahmgcjaodkaa
open Go.RowKit
open By
set_option linter.unusedVariables false
set_option linter.unusedSimpArgs false
set_option maxRecDepth 100000
theorem own_base {w : World} {b B : Nat} {e : TypeId} {size n : Nat} {v : Value} {xs : List Value} (h : w.ownsRow B e size v n xs) (hb : b ≤ B) : w.ownsRow b e size v n xs := by
  refine ⟨h.1, ?_⟩
  rcases h.2 with hn | ⟨g, cap, cur, hv, hB, rest⟩
  · exact .inl hn
  · exact .inr ⟨g, cap, cur, hv, Nat.le_trans hb hB, rest⟩
/-- The document's sector under way: the part boxed, the row grown so far. -/
structure LaySt (w0 : World) (cs : Array Value) (L : List UInt8) (v : Value) (w : World) : Prop where
  grow : Grow w0 L v w
  box : Whole w w0.heap.size 33 cs
section
variable {w0 w : World} {cs : Array Value} {L X : List UInt8} {v : Value} {ops : Array Oper} {rest : List Oper} {o : Oper} {a : Act} {Q : Exit → Act → World → Prop} {A : Option Addr} {m c : Nat}
theorem LaySt.on (h : LaySt w0 cs L v w) {w' : World} (hb : Below w.heap.size w w') : LaySt w0 cs L v w' := ⟨h.grow.on hb, (Mod.of_below hb []).whole h.box (by simp)⟩
theorem app_lay (HS : Hid (LaySt w0 cs L v w)) (HX : Hid (BytesAt w A X)) (s x : Operand) (hgd : o.guard = none) (ho : o.op = .call { callee := .builtin .append, args := #[s, x], argTypes := #[26, 26] })
    (hsv : a.eval s = v) (hxv : a.eval x = .slice A m c) (hm : X.length = m) (hl : L.length + X.length ≤ 140737488355328) (hK : ∀ v' w2, Hid (LaySt w0 cs (L ++ X) v' w2) → wpList Try.prog ops Q rest (a.put o.dst v') w2) : wpList Try.prog ops Q (o :: rest) a w :=
  app_grow HS.out.grow HX.out hm hl hgd s x ho hsv hxv (fun v' w2 k1 k2 => hK v' w2 (Lib.hid ⟨k1.out, k2.out.whole HS.out.box (own_block_ne HS.out.grow HS.out.box (by decide))⟩))
theorem app_lay_old (HS : Hid (LaySt w0 cs L v w)) (HX : Hid (BytesAt w0 A X)) (s x : Operand) (hgd : o.guard = none) (ho : o.op = .call { callee := .builtin .append, args := #[s, x], argTypes := #[26, 26] })
    (hsv : a.eval s = v) (hxv : a.eval x = .slice A m c) (hm : X.length = m) (hl : L.length + X.length ≤ 140737488355328) (hK : ∀ v' w2, Hid (LaySt w0 cs (L ++ X) v' w2) → wpList Try.prog ops Q rest (a.put o.dst v') w2) : wpList Try.prog ops Q (o :: rest) a w :=
  app_lay HS (Lib.hid (HX.out.below HS.out.grow.below)) s x hgd ho hsv hxv hm hl hK
theorem app_lay_lit (HS : Hid (LaySt w0 cs L v w)) (X : List UInt8) {cells : Array Value} (HC : Hid (cells = (u8s X).toArray)) (s x : Operand) (hgd : o.guard = none) (ho : o.op = .call { callee := .builtin .append, args := #[s, x], argTypes := #[26, 26] })
    (hsv : a.eval s = v) (hxv : a.eval x = .slice (some ⟨w.heap.size, 0, none⟩) m c) (hm : X.length = m) (hl : L.length + X.length ≤ 140737488355328) (hK : ∀ v' w2, Hid (LaySt w0 cs (L ++ X) v' w2) → wpList Try.prog ops Q rest (a.put o.dst v') w2) : wpList Try.prog ops Q (o :: rest) a (w.alloc (.cells cells 5)) := by
  have e := HC.out
  subst e
  exact app_lay (Lib.hid (HS.out.on ((Below.refl w.heap.size w).alloc (Nat.le_refl _) _))) (Lib.hid (Whole.reads (Whole.new w _ _))) s x hgd ho hsv hxv hm hl hK
end
def slen : Value → Nat
  | .slice _ n _ => n
  | _ => 0
def h11 (p : SC.Pt) : List UInt8 := four p.gen ++ four p.seq ++ [OM.by8 p.idx, OM.by8 p.parts, OM.by8 p.data.length] ++ p.data
theorem h11_len (p : SC.Pt) : (h11 p).length = 11 + p.data.length := by unfold h11; rw [List.length_append]; rfl
theorem h11_head (p : SC.Pt) : h11 p ++ List.replicate (49 - p.data.length) 0 = SC.head p := by
  unfold h11 SC.head
  simp only [List.append_assoc, List.cons_append, List.nil_append]
  rfl
set_option maxHeartbeats 4000000 in
theorem RefLay_any (p : SC.Pt) (hp : SC.Good p) (A : Option Addr) (n c : Nat) (w : World) (hB : BytesAt w A p.data) (hn : p.data.length = n) :
    Calls Try.prog 26 #[pv p (.slice A n c)] w (Fresh w (SC.lay p)) := by
  have HB := Lib.hid hB
  have HN := Lib.hid hn
  have HG := Lib.hid hp
  have hgl : p.gen < 4294967296 := by have := HG.out.gen; omega
  have hsl : p.seq < 4294967296 := by have := HG.out.seq; omega
  have HX0 := Lib.hid (Whole.new w 33 (pcells p (.slice A n c)))
  have HB0 := Lib.hid ((Below.refl _ w).alloc (Nat.le_refl _) (.cells (pcells p (.slice A n c)) 33))
  have HS0 := Lib.hid (show (w.alloc (.cells (pcells p (.slice A n c)) 33)).heap.size = w.heap.size + 1 by simp)
  clear hB hp hn
  unfold pv
  go_enter Try.func26, Try.ntmps26
  have b0 := HX0.out.part.1
  have hw1 : IntKind.u32.wrap (p.gen : Int) = (p.gen : Int) := by rw [IntKind.wrap_u32]; omega
  have hw2 : IntKind.u32.wrap (p.seq : Int) = (p.seq : Int) := by rw [IntKind.wrap_u32]; omega
  have hw8 : IntKind.u8.wrap (p.idx : Int) = (p.idx : Int) := by have := HG.out.idx; have := HG.out.parts; rw [IntKind.wrap_u8]; omega
  have hw9 : IntKind.u8.wrap (p.parts : Int) = (p.parts : Int) := by have := HG.out.parts; rw [IntKind.wrap_u8]; omega
  have hw10 : IntKind.u8.wrap (n : Int) = (n : Int) := by have := HG.out.len; have := HN.out; rw [IntKind.wrap_u8]; omega
  have HLEN := Lib.hid (show n ≤ 47 by have := HG.out.len; have := HN.out; omega)
  go_wp2_with fail
  generalize w.alloc (.cells (pcells p (.slice A n c)) 33) = w1 at HX0 HB0 HS0 b0 ⊢
  go_at_call 37
  refine (RefFour_any p.gen _ hgl).mono ?_
  rintro e w2 ⟨v2, rfl, HO, HB2⟩
  have G2 := Lib.hid (show Grow w (four p.gen) v2 w2 from ⟨own_base HO (by have := HS0.out; omega), below_on2 HB0.out (.inl (by have := HS0.out; omega)) HB2⟩)
  have X2 := Lib.hid ((Mod.of_below HB2 []).whole HX0.out (by simp))
  clear HO HB2 b0 HX0 HB0 HS0
  have b1 := X2.out.part.2.1
  go_wp2_with fail
  go_at_call 37
  refine (RefFour_any p.seq _ hsl).mono ?_
  rintro e w3 ⟨v3, rfl, HO, HB3⟩
  have G3 := Lib.hid (show LaySt w (pcells p (.slice A n c)) (four p.gen) v2 w3 from ⟨G2.out.on HB3, (Mod.of_below HB3 []).whole X2.out (by simp)⟩)
  obtain ⟨A3, c3, rfl, _, _⟩ := own_shape HO
  have HX3 := Lib.hid (BytesAt.own HO)
  clear HO HB3 G2 X2 b1
  have HC := Lib.hid (show (#[.int .u8 (p.idx : Int), .int .u8 (p.parts : Int), .int .u8 (n : Int)] : Array Value) = (u8s [OM.by8 p.idx, OM.by8 p.parts, OM.by8 p.data.length]).toArray by
    rw [by8_val (n := p.idx) (k := (p.idx : Int)) (by have := HG.out.idx; have := HG.out.parts; omega) rfl, by8_val (n := p.parts) (k := (p.parts : Int)) (by have := HG.out.parts; omega) rfl, by8_val (n := p.data.length) (k := (n : Int)) (by have := HG.out.len; omega) (by rw [HN.out])]
    rfl)
  go_wp2_with (first
    | (at_builtin; refine app_lay (by assumption) HX3 (.tmp 9) (.tmp 13) rfl rfl rfl rfl rfl (by show 4 + 4 ≤ _; decide) ?_; intro v4 w4 G4; obtain ⟨_, _, b2, b3, b4⟩ := G4.out.box.part)
    | (at_builtin; refine app_lay_lit (by assumption) _ HC (.tmp 15) (.tmp 26) rfl rfl rfl rfl rfl (by show 8 + 3 ≤ _; decide) ?_; intro v6 w6 G6; have d4 := G6.out.box.part.2.2.2.2)
    | (at_builtin; refine app_lay_old (X := p.data) (by assumption) HB (.tmp 28) (.tmp 30) rfl rfl rfl rfl HN.out (by show 11 + p.data.length ≤ _; have := HG.out.len; omega) ?_; intro v7 w7 G7))
  clear HC G3 G4 G6 HX3 b2 b3 b4 d4 hw1 hw2 hw8 hw9 hw10
  have G8 : Hid (LaySt w (pcells p (.slice A n c)) (h11 p) v7 w7) := G7
  clear G7
  go_loopw [3] (fun v wr => ∃ k : Nat, k + (11 + p.data.length) ≤ 60 ∧ Hid (LaySt w (pcells p (.slice A n c)) (h11 p ++ List.replicate k 0) v wr)) (fun v _ => 60 - slen v)
  case atStart => exact ⟨0, by have := HG.out.len; omega, Lib.hid (by rw [List.replicate_zero, List.append_nil]; exact G8.out)⟩
  case round =>
    obtain ⟨k, hk, HL⟩ := hrel
    have hlen : (h11 p ++ List.replicate k 0).length = 11 + p.data.length + k := by rw [List.length_append, h11_len, List.length_replicate]
    obtain ⟨A7, c7, e7, _, _⟩ := own_shape HL.out.grow.row
    rw [hlen] at e7
    subst e7
    have HLEN2 := Lib.hid hlen
    clear hlen
    by_cases hlt : 11 + p.data.length + k < 60
    · have HC := Lib.hid (show (#[.int .u8 0] : Array Value) = (u8s [0]).toArray from rfl)
      have HI : (11 : Int) + (p.data.length : Int) + (k : Int) < 60 := by omega
      go_wp2_with (at_builtin; refine app_lay_lit (by assumption) [0] HC (.tmp 35) (.tmp 36) rfl rfl rfl rfl rfl (by rw [HLEN2.out]; show 11 + p.data.length + k + 1 ≤ _; omega) ?_; intro v9 w9 G9)
      have HL9 := Lib.hid (show LaySt w (pcells p (.slice A n c)) (h11 p ++ List.replicate (k + 1) 0) v9 w9 by
        have h := G9.out
        rw [List.append_assoc, ← List.replicate_succ'] at h
        exact h)
      have HS9 := Lib.hid (show slen v9 = 11 + p.data.length + (k + 1) by
        obtain ⟨A9, c9, e9, _, _⟩ := own_shape HL9.out.grow.row
        rw [e9]
        show (h11 p ++ List.replicate (k + 1) 0).length = _
        rw [List.length_append, h11_len, List.length_replicate])
      clear G9 HL
      go_roundw
      case rel => exact ⟨k + 1, by omega, HL9⟩
      case measure => rw [HS9.out]; simp only [slen]; omega
    · have hk2 : k = 49 - p.data.length := by omega
      subst hk2
      rw [h11_head] at HL HLEN2
      have HI : ¬ (11 : Int) + (p.data.length : Int) + ((49 - p.data.length : Nat) : Int) < 60 := by omega
      have HSum := RefSum_any A7 c7 (SC.head p) wr (HL.out.grow.bytes rfl) (by rw [HLEN2.out]; omega)
      rw [HLEN2.out] at HSum
      have hsum := OM.sum_lt (SC.head p)
      have HFin := Lib.hid (show SC.lay p = SC.head p ++ four (OM.sum (SC.head p)) from rfl)
      generalize OM.sum (SC.head p) = s4 at HSum hsum HFin
      have HSU := Lib.hid HSum
      clear HSum
      go_wp2_with fail
      refine HSU.out.mono ?_
      rintro e w5 ⟨rfl, rfl⟩
      go_wp2_with fail
      refine (RefFour_any s4 _ hsum).mono ?_
      rintro e w6 ⟨v6, rfl, HO, HB6⟩
      have G9 := Lib.hid (HL.out.on HB6)
      obtain ⟨A6, c6, rfl, _, _⟩ := own_shape HO
      have HX6 := Lib.hid (BytesAt.own HO)
      clear HO HB6 HSU
      go_wp2_with (at_builtin; refine app_lay (by assumption) HX6 (.tmp 40) (.tmp 42) rfl rfl rfl rfl rfl (by rw [HLEN2.out]; show _ + 4 ≤ _; omega) ?_; intro v9 w9 G10)
      go_ret
      refine ⟨v9, rfl, ?_, G10.out.grow.below⟩
      rw [HFin.out]
      exact G10.out.grow.row
end Go.Proofs.Ytlnahmgcjaodkaa
