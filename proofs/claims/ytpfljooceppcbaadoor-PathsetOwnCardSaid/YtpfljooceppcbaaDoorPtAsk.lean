/- What a set is in memory; what stands over a path and under it. -/
import Derived.Test.YtpfljooceppcbaaDoorPtGather
import Derived.Test.YtpfljooceppcbaaDoorPtLib
import Derived.Test.YtpfljooceppcbaaDoorPathsW2
namespace Go.Proofs.YtpfljooceppcbaaDoor
open Go.RowKit
open SE (Ent)
open PM (str)
open PT (blk ids set cut kidPairs lies Agrees segs)
set_option linter.unusedVariables false
set_option maxRecDepth 100000
def entPairs (l : List Ent) : List (Value × Value) := l.map fun e => (.int .i64 e.id, agg e)
structure SetAt (w : World) (g : Nat) (L : List Ent) (T : Tr) (own : Owner) (M : Nat) (D : List Ent) : Prop where
  tree : TreeAt w T own
  cells : Whole w g 51 #[.map (some M), .pointer (some ⟨blk T [], 0, none⟩)]
  map : MapAt w M (.int .i64) (entPairs D)
  perm : D.Perm L
  agree : Agrees T L
  inv : SE.Inv L
  fair : ∀ e ∈ L, Fair e
  own3 : own g = none
  own4 : own M = none
  gM : g ≠ M
section
variable {w w' : World} {g : Nat} {L D : List Ent} {T : Tr} {own : Owner} {M : Nat}
theorem SetAt.mod {G : List Nat} (h : SetAt w g L T own M D) (hm : Mod G w w') (hG : ∀ b ∈ G, own b = none ∧ b ≠ g ∧ b ≠ M) : SetAt w' g L T own M D where
  tree := h.tree.mod hm (fun b hb => (hG b hb).1)
  cells := hm.whole h.cells (fun hg => (hG g hg).2.1 rfl)
  map := h.map.mod hm (fun hg => (hG M hg).2.2 rfl)
  perm := h.perm
  agree := h.agree
  inv := h.inv
  fair := h.fair
  own3 := h.own3
  own4 := h.own4
  gM := h.gM
theorem SetAt.below (h : SetAt w g L T own M D) (hb : Below w.heap.size w w') : SetAt w' g L T own M D := h.mod (Mod.of_below hb []) (by simp)
theorem SetAt.cell0 (h : SetAt w g L T own M D) : w.cell? ⟨g, 0, none⟩ = some (.map (some M)) := h.cells.cell 0
theorem SetAt.cell1 (h : SetAt w g L T own M D) : w.cell? ⟨g, 1, none⟩ = some (.pointer (some ⟨blk T [], 0, none⟩)) := h.cells.cell 1
end
/-- A pointer to the branch of a way; nil if there is none. -/
def ptrTo (T : Tr) (q : Way) : Value := match T q with
  | some n => .pointer (some ⟨n.b, 0, none⟩)
  | none => .pointer none
theorem ptrTo_some {T : Tr} {q : Way} {n : Nd} (h : T q = some n) : ptrTo T q = .pointer (some ⟨n.b, 0, none⟩) := by unfold ptrTo; rw [h]
theorem ptrTo_none {T : Tr} {q : Way} (h : T q = none) : ptrTo T q = .pointer none := by unfold ptrTo; rw [h]
theorem key_str (s : List UInt8) : MapKept.IsKey .string (str s) := by unfold PM.str; exact trivial
theorem NodeAt.look {w : World} {T : Tr} {own : Owner} {p : Way} {n : Nd} (h : NodeAt w T own p n) (s : List UInt8) :
    (Instr.lookup 47 (.map n.m) (str s) false).run Tryd.prog w = .ok (ptrTo T (p ++ [s])) w := by
  cases hs : T (p ++ [s]) with
  | none =>
    rw [ptrTo_none hs]
    have hk : s ∉ n.kids := fun hm => by
      have := (h.kids s).1 hm
      rw [hs] at this; cases this
    cases hm : n.m with
    | none => exact look_nil Tryd.underlying47 Tryd.underlying9 (d := .string) (key_str s) (Tryd.zeroValue46 w) false
    | some mb => exact (h.kidsAt mb hm).look_no Tryd.underlying47 Tryd.underlying9 (key_str s) (PT.kidPairs_no hk) (Tryd.zeroValue46 w) false
  | some n' =>
    rw [ptrTo_some hs]
    have hk : s ∈ n.kids := (h.kids s).2 (by rw [hs]; rfl)
    cases hm : n.m with
    | none =>
      rw [h.bare hm] at hk
      cases hk
    | some mb =>
      have := (h.kidsAt mb hm).look_yes (P := Tryd.prog) Tryd.underlying47 Tryd.underlying9 (PT.kidPairs_keys h.nodup) (PT.kidPairs_mem hk) false
      rw [PT.blk_some hs] at this
      exact this
/-! ### The way to a path -/
theorem info_ptr : (Tryd.prog.info? 46).map (fun i => (i.zero, i.size, i.bytes)) = some (some (.pointer none), 1, 8) := by kernel_rfl
/-- The branches of a way's first k steps, the root's first. -/
def wayPtrs (T : Tr) (ss : Way) (k : Nat) : List Value := (List.range k).map fun j => .pointer (some ⟨blk T (ss.take j), 0, none⟩)
theorem wayPtrs_len (T : Tr) (ss : Way) (k : Nat) : (wayPtrs T ss k).length = k := by simp [wayPtrs]
theorem wayPtrs_succ (T : Tr) (ss : Way) (k : Nat) : wayPtrs T ss (k + 1) = wayPtrs T ss k ++ [.pointer (some ⟨blk T (ss.take k), 0, none⟩)] := by
  unfold wayPtrs
  rw [List.range_succ, List.map_append]; rfl
theorem wayPtrs_at {T : Tr} {ss : Way} {k j : Nat} (h : j < k) : (wayPtrs T ss k)[j]? = some (.pointer (some ⟨blk T (ss.take j), 0, none⟩)) := by
  unfold wayPtrs
  rw [List.getElem?_map, List.getElem?_range h]; rfl
theorem wayPtrs_one {T : Tr} {ss : Way} {k : Nat} : ∀ u ∈ wayPtrs T ss k, u.oneCell' = true := by
  intro u hu
  obtain ⟨j, _, rfl⟩ := List.mem_map.1 hu
  rfl
theorem below_take {ss : Way} {k : Nat} (h : k < ss.length) : ss.take (k + 1) = ss.take k ++ [ss[k]] := by rw [List.take_add_one, List.getElem?_eq_getElem h]; rfl
/-- One pointer put behind what the call itself has grown. -/
theorem app_ptr {B : Nat} {w : World} {ops : Array Oper} {rest : List Oper} {o : Oper} {a : Act} {Q : Exit → Act → World → Prop} (hgd : o.guard = none) (s x : Operand)
    (ho : o.op = .call { callee := .builtin .append, args := #[s, x], argTypes := #[70, 70] })
    (v : Value) (n : Nat) (xs : List Value) (hown : w.ownsRow B 46 1 v n xs) (hB : B ≤ w.heap.size) (hs : a.eval s = v) (b : Nat) (hx : a.eval x = .slice (some ⟨w.heap.size, 0, none⟩) 1 1) (hl : n ≤ 100)
    (h : ∀ v' w2, w2.ownsRow B 46 1 v' (n + 1) (xs ++ [.pointer (some ⟨b, 0, none⟩)]) → (∀ A : Nat, A ≤ B → Below A w w2) → wpList Tryd.prog ops Q rest (a.put o.dst v') w2) :
    wpList Tryd.prog ops Q (o :: rest) a (w.alloc (.cells #[.pointer (some ⟨b, 0, none⟩)] 46)) := by
  obtain ⟨i0, hi, hz0, hz1, hz2⟩ := info_parts info_ptr
  refine wpList_append_own_at _ hgd s x 70 ho B 46 i0 (.pointer none) 1 8 Tryd.underlying70 hi hz0 hz1 hz2 rfl (by decide) v n xs hs (hown.alloc _) ⟨w.heap.size, 0, none⟩ 1 1 [.pointer (some ⟨b, 0, none⟩)] hx rfl
    (World.news_of_block (cs := #[.pointer (some ⟨b, 0, none⟩)]) (t := 46) (fr := (0, 0)) (heap_alloc_new w _)) (by simp [Value.oneCell']) (by unfold maxLen; omega) (by omega) (by rw [World.size_alloc]; omega) ?_
  intro v' w2 hown' hgrow _ _
  refine h v' w2 hown' (fun A hA => ((Below.refl A w).alloc (by omega) _).grown hgrow (by rw [World.size_alloc]; omega) (fun k hk => Nat.le_trans hA (hown.lt k hk).1))
theorem row_lower {b1 b2 : Nat} {w : World} {e : TypeId} {s n : Nat} {v : Value} {xs : List Value} (h : w.ownsRow b1 e s v n xs) (hb : b2 ≤ b1) : w.ownsRow b2 e s v n xs := by
  refine ⟨h.1, ?_⟩
  rcases h.2 with h0 | ⟨g, cap, cur, e1, h1, hr⟩
  · exact .inl h0
  · exact .inr ⟨g, cap, cur, e1, Nat.le_trans hb h1, hr⟩
/-- What trace hands back: the branches of the first K steps and the root's, and the last if all were there. -/
def Traced (T : Tr) (ss : Way) (w : World) (e : Ending) (w' : World) : Prop :=
  ∃ K A c, e = .returned (.tuple #[.slice A (K + 1) c, if K = ss.length then ptrTo T ss else .pointer none]) ∧ K ≤ ss.length ∧ (∀ k, k ≤ K → (T (ss.take k)).isSome = true) ∧ (K < ss.length → T (ss.take (K + 1)) = none) ∧
    w'.ownsRow w.heap.size 46 1 (.slice A (K + 1) c) (K + 1) (wayPtrs T ss (K + 1)) ∧ Below w.heap.size w w'
set_option maxHeartbeats 1000000 in
theorem trace_nil (q : ByteArray) (w : World) (hx : HasMax w) (hq : q.size ≤ 9223372036854775807) :
    Calls Tryd.prog 34 #[.pointer none, .string q] w fun e w' => e = .returned (.tuple #[.slice none 0 0, .pointer none]) ∧ Below w.heap.size w w' := by
  cases ho : PM.okB q.data.toList with
  | false =>
    have HC := Lib.hid (Split_no q w hq ho)
    clear ho
    go_enter Tryd.func34, Tryd.ntmps34
    go_wp2_with fail
    refine HC.out.mono ?_
    rintro e w' ⟨rfl, rfl⟩
    go_wp2_with fail
    go_ret2
    exact ⟨rfl, Below.refl _ _⟩
  | true =>
    have HC := Lib.hid (Split_ok q w hx ho)
    clear ho
    go_enter Tryd.func34, Tryd.ntmps34
    go_wp2_with fail
    refine HC.out.mono ?_
    rintro e w' ⟨A, c, rfl, _, hb, _⟩
    have HB := Lib.hid hb; clear hb
    go_wp2_with fail
    go_ret2
    exact ⟨rfl, HB.out⟩
set_option maxHeartbeats 1000000 in
theorem trace_bad {g b : Nat} (q : ByteArray) (w : World) (hq : q.size ≤ 9223372036854775807) (ho : PM.okB q.data.toList = false) (hc : w.cell? ⟨g, 1, none⟩ = some (.pointer (some ⟨b, 0, none⟩))) :
    Calls Tryd.prog 34 #[.pointer (some ⟨g, 0, none⟩), .string q] w fun e w' => e = .returned (.tuple #[.slice none 0 0, .pointer none]) ∧ w' = w := by
  have HC := Lib.hid (Split_no q w hq ho)
  clear ho
  go_enter Tryd.func34, Tryd.ntmps34
  go_wp2_with fail
  refine HC.out.mono ?_
  rintro e w' ⟨rfl, rfl⟩
  go_wp2_with fail
  go_ret2
  exact ⟨rfl, rfl⟩
set_option maxHeartbeats 2000000 in
theorem trace_ok {g M : Nat} {L D : List Ent} {T : Tr} {own : Owner} (q : ByteArray) (w : World) (hx : HasMax w) (ho : PM.okB q.data.toList = true) (hS : SetAt w g L T own M D) :
    Calls Tryd.prog 34 #[.pointer (some ⟨g, 0, none⟩), .string q] w (Traced T (PM.segsOf q.data.toList) w) := by
  have HC := Lib.hid (Split_ok q w hx ho)
  have hl4 : (PM.segsOf q.data.toList).length ≤ 4 := by
    rw [PM.okB_segs] at ho
    simp only [PM.segsB, Bool.and_eq_true, decide_eq_true_eq] at ho
    exact ho.1
  have HS := Lib.hid hS
  obtain ⟨r, hr⟩ := Option.isSome_iff_exists.1 hS.tree.root
  have c1 := hS.cell1
  have HR := Lib.hid hr
  have hbr : blk T [] = r.b := PT.blk_some hr
  rw [hbr] at c1
  clear ho hS hr hx
  generalize PM.segsOf q.data.toList = ss at HC hl4 ⊢
  go_enter Tryd.func34, Tryd.ntmps34
  go_wp2_with fail
  refine HC.out.mono ?_
  rintro e w1 ⟨A, c, rfl, hst, hb, _, hc4⟩
  have HB := Lib.hid hb
  have HST := Lib.hid hst
  have hlt : g < w.heap.size := HS.out.cells.lt
  have c11 : w1.cell? ⟨g, 1, none⟩ = some (.pointer (some ⟨r.b, 0, none⟩)) := (hb.cell (p := ⟨g, 1, none⟩) hlt).trans c1
  have hsc := hst.1
  clear hb hst
  go_wp2_with fail
  go_loopw [4, 5, 9, 36] (fun v4 v5 _ v36 wr => ∃ k : Nat, v36 = .int .i64 (k : Int) ∧ k ≤ ss.length ∧ v5 = .pointer (some ⟨blk T (ss.take k), 0, none⟩) ∧ Hid (∀ j, j ≤ k → (T (ss.take j)).isSome = true) ∧
      Hid (wr.ownsRow w1.heap.size 46 1 v4 (k + 1) (wayPtrs T ss (k + 1))) ∧ Hid (Below w1.heap.size w1 wr)) (fun _ _ _ v36 _ => ss.length - (intOf v36).toNat)
  case atStart =>
    refine ⟨0, rfl, Nat.zero_le _, by rw [List.take_zero, hbr], Lib.hid (fun j hj => ?_), Lib.hid ?_, Lib.hid ((Below.refl _ _).alloc (Nat.le_refl _) _)⟩
    · have : j = 0 := by omega
      subst this
      rw [List.take_zero, HR.out]; rfl
    · have h1 : wayPtrs T ss 1 = [.pointer (some ⟨r.b, 0, none⟩)] := by
        unfold wayPtrs
        simp [hbr]
      rw [h1]
      exact World.ownsRow_lit w1 #[.pointer (some ⟨r.b, 0, none⟩)] 1 (Nat.le_refl _) (by decide) rfl
  case round =>
    obtain ⟨k, rfl, hk, rfl, HA, HW, HBr⟩ := hrel
    obtain ⟨A4, c4, rfl, hc41, hc42⟩ := own_shape HW.out
    by_cases hlt2 : k < ss.length
    · obtain ⟨b, o, eA, hb, hca⟩ := HST.out.2 (by omega)
      subst eA
      have hcell : wr.cell? ⟨b, o + k, none⟩ = some (str ss[k]) := (HBr.out.cell (p := ⟨b, o + k, none⟩) hb).trans (hca k ss[k] (List.getElem?_eq_getElem hlt2))
      obtain ⟨n, hn⟩ := Option.isSome_iff_exists.1 (HA.out k (Nat.le_refl _))
      have hbn : blk T (ss.take k) = n.b := PT.blk_some hn
      have hN := (HS.out.tree.node _ n hn).below (HB.out.trans (HBr.out.mono HB.out.size))
      have cn := hN.cell1
      have HLK := Lib.hid (hN.look ss[k])
      rw [← below_take hlt2] at HLK
      have HT1 := Lib.hid (below_take hlt2)
      have HWS := Lib.hid (wayPtrs_succ T ss (k + 1))
      clear hca hN
      generalize ss[k] = s at hcell HLK HT1
      unfold PM.str at hcell HLK
      rw [hbn]
      cases hT : T (ss.take (k + 1)) with
      | none =>
        rw [ptrTo_none hT] at HLK
        have HTN := Lib.hid hT; clear hT
        go_wp2_with (at_lookup; refine wp_look rfl _ _ _ _ rfl _ _ _ rfl rfl HLK.out ?_)
        go_ret2
        exact ⟨k, A4, c4, by rw [if_neg (by omega)]; rfl, hk, HA.out, fun _ => HTN.out, row_lower HW.out HB.out.size, HB.out.trans (HBr.out.mono HB.out.size)⟩
      | some n' =>
        rw [ptrTo_some hT] at HLK
        have HTN := Lib.hid hT; clear hT
        go_wp2_with (first
          | (at_lookup; refine wp_look rfl _ _ _ _ rfl _ _ _ rfl rfl HLK.out ?_)
          | (at_builtin; refine app_ptr rfl (.tmp 48) (.tmp 50) rfl _ _ _ HW.out HBr.out.size rfl n'.b rfl (by omega) ?_; intro v' w2 hown hbel; have HO := Lib.hid hown; have HBL := Lib.hid (hbel w1.heap.size (Nat.le_refl _)); clear hown hbel))
        go_roundw
        case rel =>
          refine ⟨k + 1, by go_num, by omega, by rw [PT.blk_some HTN.out], Lib.hid (fun j hj => ?_), Lib.hid ?_, Lib.hid (HBr.out.trans HBL.out)⟩
          · by_cases e : j = k + 1
            · subst e; rw [HTN.out]; rfl
            · exact HA.out j (by omega)
          · rw [HWS.out, PT.blk_some HTN.out]; exact HO.out
        case measure => simp only [intOf]; omega
    · have hkl : k = ss.length := by omega
      subst hkl
      have HTS := Lib.hid (show ss.take ss.length = ss from List.take_length)
      obtain ⟨n, hn⟩ := Option.isSome_iff_exists.1 (HA.out ss.length (Nat.le_refl _))
      rw [HTS.out] at hn ⊢
      have HN := Lib.hid hn
      rw [PT.blk_some hn]
      clear hn
      go_wp2_with fail
      go_ret2
      exact ⟨ss.length, A4, c4, by rw [if_pos rfl, ptrTo_some HN.out]; rfl, Nat.le_refl _, HA.out, fun h => absurd h (Nat.lt_irrefl _), row_lower HW.out HB.out.size, HB.out.trans (HBr.out.mono HB.out.size)⟩
end Go.Proofs.YtpfljooceppcbaaDoor
