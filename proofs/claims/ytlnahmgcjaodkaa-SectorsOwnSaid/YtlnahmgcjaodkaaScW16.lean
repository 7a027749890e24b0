/- The statements' records as sectors (packed): a list of sectors put behind a list of the call's own. -/
import Derived.Test.YtlnahmgcjaodkaaScW15
namespace Go.Proofs.Ytlnahmgcjaodkaa
open Go.RowKit
open By
set_option linter.unusedVariables false
set_option linter.unusedSimpArgs false
set_option maxRecDepth 100000
theorem own_of_whole {w : World} {base b : Nat} {x : List UInt8} (h : Whole w b 5 (u8s x).toArray) (hb : base ≤ b) {n : Nat} (hx : x.length = n) (hn : n ≤ 9223372036854775807) : w.ownsRow base 5 1 (.slice (some ⟨b, 0, none⟩) n n) x.length (u8s x) := by
  subst hx
  refine ⟨by rw [u8s_len, Nat.mul_one], .inr ⟨b, x.length, (u8s x).toArray, rfl, hb, h, Nat.le_refl _, hn, by rw [List.size_toArray, u8s_len, Nat.mul_one], ?_⟩⟩
  rw [Nat.mul_one]
  exact List.take_of_length_le (by simp [u8s])
theorem run_app_hdrs {W : World} {base base' : Nat} {v : Value} {rs xs : List (List UInt8)} {g n : Nat} {bs : List Nat} (ty : TypeId) (hL : Lst base rs v W) (hP : Packed base' g bs n xs W) (hfull : bs.length = n) (h64 : ∀ (j : Nat) (x : List UInt8), xs[j]? = some x → x.length = 64) (hbb : base ≤ base') (hl : (rs.length + n) * 24 ≤ 140737488355328) (hb : base ≤ W.heap.size) :
    ∃ v' w2, (Builtin.append_ #[22, 22] ty #[v, .slice (some ⟨g, 0, none⟩) n n]).run Try.prog W = .ok v' w2 ∧ Lst base (rs ++ xs) v' w2 ∧ Below base W w2 := by
  obtain ⟨i0, hi, hz0, hz1, hz2⟩ := info_parts info_row
  obtain ⟨hs, h1, h2⟩ := hL.ex
  have hnews : ∀ j u, (bs.map hdr64)[j]? = some u → W.cell? ((⟨g, 0, none⟩ : Addr).add j) = some u := fun j u hu => by
    rw [List.getElem?_map] at hu
    obtain ⟨b, hb, rfl⟩ := Option.map_eq_some_iff.1 hu
    rw [Addr.add_lit, Nat.zero_add, hP.row.cell]
    exact packCells_hdr hb
  obtain ⟨v', w', hr, k1, k2, _, _⟩ := run_append_own_at (P := Try.prog) W base 22 ty 26 i0 (.slice none 0 0) 1 24 Try.underlying22 hi hz0 hz1 hz2 rfl (by decide) v rs.length hs h1 ⟨g, 0, none⟩ n n (bs.map hdr64) (by rw [List.length_map, hfull, Nat.mul_one])
    hnews (by intro u hu; obtain ⟨b, _, rfl⟩ := List.mem_map.1 hu; rfl) (by unfold maxLen; omega) (by omega) hb
  have hM : Mod v.ownBlock.toList W w' := (Mod.refl _ W).grown k2 (fun k hk => .inl (by rw [hk]; simp))
  refine ⟨v', w', hr, ⟨hs ++ bs.map hdr64, by rw [List.length_append, ← hP.len, hfull]; exact k1, fun j x hx => ?_⟩, hM.below hb (fun x hx => (h1.lt x (by simpa using hx)).1)⟩
  have hlen : hs.length = rs.length := by have := h1.1; omega
  have keep : ∀ {b : Nat} {cs : Array Value}, Whole W b 5 cs → Whole w' b 5 cs := fun hw => hM.whole hw (fun hx => own_ne h1 hw (by decide) (by simpa using hx))
  by_cases hj : j < rs.length
  · rw [List.getElem?_append_left hj] at hx
    obtain ⟨v2, q1, q2⟩ := h2 j x hx
    refine ⟨v2, by rw [List.getElem?_append_left (by omega)]; exact q1, hM.own q2 (fun k hk hx' => ?_)⟩
    have hx' : v.ownBlock = some k := by simpa using hx'
    obtain ⟨c1, w1⟩ := own_whole h1 hx'
    obtain ⟨c2, w2⟩ := own_whole q2 hk
    exact Whole.ne w1 w2 (by decide) rfl
  · rw [List.getElem?_append_right (by omega)] at hx
    have hjb : j - rs.length < bs.length := by rw [hP.len]; exact (List.getElem?_eq_some_iff.1 hx).1
    obtain ⟨q1, q2⟩ := hP.each _ _ x (List.getElem?_eq_getElem hjb) hx
    refine ⟨hdr64 bs[j - rs.length], by rw [List.getElem?_append_right (by omega), hlen, List.getElem?_map, List.getElem?_eq_getElem hjb]; rfl, ?_⟩
    exact own_of_whole (keep q2) (Nat.le_trans hbb q1) (h64 _ x hx) (by decide)
theorem app_hdrs {W : World} {base base' : Nat} {v : Value} {rs xs : List (List UInt8)} {g n : Nat} {bs : List Nat} (hL : Hid (Lst base rs v W)) (hP : Hid (Packed base' g bs n xs W)) (hfull : bs.length = n) (h64 : ∀ (j : Nat) (x : List UInt8), xs[j]? = some x → x.length = 64) (hbb : base ≤ base') (hl : (rs.length + n) * 24 ≤ 140737488355328) (hb : base ≤ W.heap.size)
    {ops : Array Oper} {rest : List Oper} {o : Oper} {a : Act} {Q : Exit → Act → World → Prop} (hgd : o.guard = none) (s x : Operand) (ho : o.op = .call { callee := .builtin .append, args := #[s, x], argTypes := #[22, 22] })
    (hsv : a.eval s = v) (hxv : a.eval x = .slice (some ⟨g, 0, none⟩) n n) (hK : ∀ v' w2, Hid (Lst base (rs ++ xs) v' w2) → Hid (Below base W w2) → wpList Try.prog ops Q rest (a.put o.dst v') w2) : wpList Try.prog ops Q (o :: rest) a W := by
  refine wpList_plain hgd fun K hK' => ?_
  obtain ⟨v', w2, hr, h2, h3⟩ := run_app_hdrs o.type hL.out hP.out hfull h64 hbb hl hb
  unfold Oper.wp execOp
  simp only [ho, resolve, invoke, builtin, Sem.run_bind, Sem.run_pure, Result.andThen_ok, List.map_toArray, List.map_cons, List.map_nil, hsv, hxv, hr]
  exact hK' _ _ (hK v' w2 (Lib.hid h2) (Lib.hid h3))
/-- All records may be packed. -/
def Fair (g : Int) (rs : List (List UInt8)) (k : Nat) : Prop := ∀ (i : Nat) (r : List UInt8), rs[i]? = some r → i < k → packErr g (i : Int) r.length = 0
theorem packErr_zero {g s : Int} {n : Nat} (h : packErr g s n = 0) : (1 ≤ g ∧ g ≤ 1073741824) ∧ (0 ≤ s ∧ s ≤ 1073741824) ∧ n ≤ 188 := by
  unfold packErr at h
  split at h
  · rename_i h1
    split at h
    · cases h
    · exact ⟨h1.1, h1.2, by omega⟩
  · cases h
theorem packs_len (g : Nat) : ∀ (s : Nat) (rs : List (List UInt8)), (∀ r ∈ rs, r.length ≤ 188) → (SC.packs g s rs).length ≤ 4 * rs.length
  | _, [], _ => by simp [SC.packs]
  | s, d :: rs, h => by
    show (SC.pack g s d ++ SC.packs g (s + 1) rs).length ≤ _
    have h1 := packs_len g (s + 1) rs (fun r hr => h r (List.mem_cons_of_mem _ hr))
    have h2 := h d List.mem_cons_self
    rw [List.length_append, SC.pack_len, List.length_cons]
    unfold SC.np
    omega
theorem packs64 (g : Nat) (hg : 1 ≤ g ∧ g ≤ 1073741824) : ∀ (s : Nat) (rs : List (List UInt8)), s + rs.length ≤ 1073741824 → (∀ r ∈ rs, r.length ≤ 188) → ∀ x ∈ SC.packs g s rs, x.length = 64
  | _, [], _, _, x, hx => by simp [SC.packs] at hx
  | s, d :: rs, hs, h, x, hx => by
    have hx : x ∈ SC.pack g s d ++ SC.packs g (s + 1) rs := hx
    rw [List.length_cons] at hs
    rcases List.mem_append.1 hx with hx | hx
    · obtain ⟨j, hj⟩ := List.mem_iff_getElem?.1 hx
      exact pack64 hg (by omega) (h d List.mem_cons_self) j x hj
    · exact packs64 g hg (s + 1) rs (by omega) (fun r hr => h r (List.mem_cons_of_mem _ hr)) x hx
def PacksPost (w : World) (g : Int) (rs : List (List UInt8)) (e : Ending) (w' : World) : Prop :=
  Hid (Below w.heap.size w w') ∧ ((∃ v, Hid (Fair g rs rs.length) ∧ e = .returned (.tuple #[v, .bool true]) ∧ Hid (Lst w.heap.size (SC.packs g.toNat 0 rs) v w')) ∨ (Hid (¬ Fair g rs rs.length) ∧ e = .returned (.tuple #[.slice none 0 0, .bool false])))
set_option maxHeartbeats 4000000 in
theorem packed_any (g : Int) (A : Option Addr) (n c : Nat) (rs : List (List UInt8)) (w : World) (hA : RowsAt w A rs) (hn : rs.length = n) (hn40 : n ≤ 40) (hl : ∀ (j : Nat) (x : List UInt8), rs[j]? = some x → x.length ≤ 140737488351232) :
    Calls Try.prog 21 #[.int .i64 g, .slice A n c] w (PacksPost w g rs) := by
  have HA := Lib.hid hA
  have HN := Lib.hid hn
  have HLE := Lib.hid hl
  clear hA hn hl
  go_enter Try.func21, Try.ntmps21
  go_wp2_with fail
  go_loopw [6, 13] (fun v i wr => ∃ k : Nat, i = .int .i64 (k : Int) ∧ k ≤ n ∧ Hid (Fair g rs k) ∧ Hid (Lst w.heap.size (SC.packs g.toNat 0 (rs.take k)) v wr) ∧ Hid (Below w.heap.size w wr)) (fun _ i _ => n - (intOf i).toNat)
  case atStart => exact ⟨0, rfl, Nat.zero_le _, Lib.hid (fun i r _ hi => absurd hi (Nat.not_lt_zero _)), Lib.hid (Lst.nil w _), Lib.hid (Below.refl _ w)⟩
  case round =>
    obtain ⟨k, rfl, hk, HF, HL, HBW⟩ := hrel
    by_cases hlt : k < n
    · obtain ⟨b, o, rfl, hbl, hca⟩ := (HA.out.below HBW.out) (by have := HN.out; omega)
      obtain ⟨x, hx⟩ : ∃ x, rs[k]? = some x := ⟨_, List.getElem?_eq_getElem (by have := HN.out; omega)⟩
      obtain ⟨A1, c1, a0, hB, _, _⟩ := hca k x hx
      have HX := Lib.hid hx
      have HTK := Lib.hid (show rs.take (k + 1) = rs.take k ++ [x] by rw [List.take_add_one, hx]; rfl)
      have HTL := Lib.hid (show (rs.take k).length = k by rw [List.length_take, HN.out]; omega)
      have hxl : x.length ≤ 140737488355328 := by have := HLE.out k x hx; omega
      have HBX := Lib.hid hB
      have hrw : w.heap.size ≤ wr.heap.size := HBW.out.size
      obtain ⟨A4, c4, e4, _, hc4, hc5, _⟩ := HL.out.shape
      subst e4
      clear hca hx hB
      go_wp2_with (at_builtin; refine app_all rfl (.tmp 21) (.tmp 22) rfl A1 c1 x.length x rfl HBX.out wr.heap.size rfl rfl rfl hxl ?_; intro A5 n5 c5 w5 hM; obtain ⟨HN5, HB5, HO5, HE5, hn5, hc5⟩ := hM)
      go_at_call 11
      refine (Pack_any g (k : Int) x n5 A5 c5 w5 HB5.out HN5.out.symm ⟨hn5, hc5⟩).mono ?_
      rintro e w6 ⟨HB6, h6⟩
      have h56 : w.heap.size ≤ w5.heap.size := Nat.le_trans hrw HE5.out.size
      have h66 : w.heap.size ≤ w6.heap.size := Nat.le_trans h56 HB6.out.size
      have HBW6 := Lib.hid (below_on2 (below_on2 HBW.out (.inl hrw) HE5.out) (.inl h56) HB6.out)
      rcases h6 with ⟨gn, sn, bs, HG, rfl, HP⟩ | ⟨HE, rfl⟩
      · have HL6 := Lib.hid ((HL.out.below HE5.out).below HB6.out)
        have hP4 : SC.np x ≤ 4 := by have := HG.out.2.2.2.2; unfold SC.np; omega
        have HF2 := Lib.hid (show Fair g rs (k + 1) from fun i r hr hi => by
          by_cases e : i = k
          · subst e
            rw [HX.out] at hr
            cases hr
            obtain ⟨e1, e2, e3, e4, e5⟩ := HG.out
            unfold packErr
            rw [if_pos (by omega), if_neg (by omega)]
          · exact HF.out i r hr (by omega))
        have H188 := Lib.hid (show ∀ r ∈ rs.take k, r.length ≤ 188 from fun r hr => by
          obtain ⟨j, hj⟩ := List.mem_iff_getElem?.1 hr
          rw [List.getElem?_take] at hj
          split at hj
          · exact (packErr_zero (HF.out j r hj (by assumption))).2.2
          · cases hj)
        have HPKL := Lib.hid (packs_len g.toNat 0 (rs.take k) H188.out)
        rw [HTL.out] at HPKL
        have HFULL := Lib.hid (show bs.length = SC.np x by rw [HP.out.len, SC.pack_len])
        have H64 := Lib.hid (pack64 (s := sn) HG.out.2.2.1 HG.out.2.2.2.1 HG.out.2.2.2.2)
        have HEQ := Lib.hid (show SC.packs g.toNat 0 (rs.take (k + 1)) = SC.packs g.toNat 0 (rs.take k) ++ SC.pack gn sn x by
          obtain ⟨e1, e2, _⟩ := HG.out
          have h1 : g.toNat = gn := by omega
          have h2 : sn = k := by omega
          rw [HTK.out, SC.packs_snoc, HTL.out, Nat.zero_add, h1, h2])
        have HRM := Lib.hid (show ((SC.packs g.toNat 0 (rs.take k)).length + SC.np x) * 24 ≤ 140737488355328 by have := HPKL.out; omega)
        generalize SC.packs g.toNat 0 (rs.take k) = L at *
        generalize SC.pack gn sn x = X at *
        generalize SC.np x = m at *
        go_wp2_with (at_builtin; refine app_hdrs HL6 HP HFULL.out H64.out h56 HRM.out h66 rfl (.tmp 29) (.tmp 30) rfl rfl rfl ?_; intro v7 w7 HL7 HB7)
        rw [← HEQ.out] at HL7
        have HBF := Lib.hid (HBW6.out.trans HB7.out)
        go_roundw
        case rel => exact ⟨k + 1, by go_num, hlt, HF2, HL7, HBF⟩
        case measure => simp only [intOf]; go_num
      · have HNF := Lib.hid (show ¬ Fair g rs rs.length from fun hf => HE.out (hf k x HX.out (by have := HN.out; omega)))
        generalize hpe : packErr g (k : Int) x.length = pe at *
        have hpe0 : (pe == 0) = false := by simpa using HE.out
        clear hpe
        go_wp2_with fail
        go_ret2
        exact ⟨HBW6, .inr ⟨HNF, rfl⟩⟩
    · obtain rfl : k = n := by omega
      have HF2 := Lib.hid (show Fair g rs rs.length by rw [HN.out]; exact HF.out)
      have HL2 := HL
      rw [List.take_of_length_le (by rw [HN.out]; exact Nat.le_refl _)] at HL2
      go_wp2_with fail
      go_ret2
      exact ⟨HBW, .inl ⟨_, HF2, rfl, HL2⟩⟩
end Go.Proofs.Ytlnahmgcjaodkaa
