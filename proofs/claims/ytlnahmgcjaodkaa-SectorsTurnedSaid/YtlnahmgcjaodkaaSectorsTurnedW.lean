/- The walk of SectorsTurned: it answers true, and old memory stands. -/
import Derived.Test.YtlnahmgcjaodkaaScArg
import Derived.Test.YtlnahmgcjaodkaaScBMath
import Derived.Test.YtlnahmgcjaodkaaLawBare
import Derived.JoinedCond
import Derived.OpenShut
namespace Go.Proofs.Ytlnahmgcjaodkaa.lawSectorsTurned
open Go Go.RowKit Go.ChangeShapes Go.WideShapes Go.ChangeAt
set_option linter.unusedVariables false
set_option linter.unusedSimpArgs false
open By
theorem u8_turn {x : UInt8} {y : UInt8} : bits .xor .u8 (x.toNat : Int) (y.toNat : Int) = ((x ^^^ y).toNat : Int) := by
  rw [u8_xor_nat _ _ x.toNat_lt y.toNat_lt, UInt8.toNat_xor]
theorem turned_ne {x y : UInt8} (h0 : y.toNat ≠ 0) : x ≠ x ^^^ y := by
  intro e
  have h1 := congrArg UInt8.toNat e
  rw [UInt8.toNat_xor] at h1
  have h2 : x.toNat ^^^ 0 = x.toNat ^^^ y.toNat := by rw [Nat.xor_zero]; exact h1
  exact h0 (OM.xor_left h2).symm
/-- The sectors from number k on stand as they were packed. -/
structure Left (w0 : World) (g : Nat) (bs : List Nat) (xs : List (List UInt8)) (n k : Nat) (w : World) : Prop where
  row : Whole w g 26 (packCells bs n)
  len : bs.length = xs.length
  each : ∀ (j b : Nat) (x : List UInt8), k ≤ j → bs[j]? = some b → xs[j]? = some x → w0.heap.size ≤ b ∧ Whole w b 5 (u8s x).toArray
  nodup : bs.Nodup
  below : Below w0.heap.size w0 w
theorem Left.start {w0 w : World} {base g : Nat} {bs : List Nat} {xs : List (List UInt8)} {n : Nat} (h : Packed base g bs n xs w) (hb : w0.heap.size ≤ base) (hB : Below w0.heap.size w0 w) : Left w0 g bs xs n 0 w :=
  ⟨h.row, h.len, fun j b x _ h1 h2 => ⟨Nat.le_trans hb (h.each j b x h1 h2).1, (h.each j b x h1 h2).2⟩, h.nodup, hB⟩
theorem Left.on {w0 w w' : World} {g : Nat} {bs : List Nat} {xs : List (List UInt8)} {n k : Nat} (h : Left w0 g bs xs n k w) (hb : Below w.heap.size w w') : Left w0 g bs xs n k w' :=
  ⟨(Mod.of_below hb []).whole h.row (by simp), h.len, fun j b x hk h1 h2 => ⟨(h.each j b x hk h1 h2).1, (Mod.of_below hb []).whole (h.each j b x hk h1 h2).2 (by simp)⟩, h.nodup, below_on2 h.below (.inl h.below.size) hb⟩
theorem Left.turn {w0 w : World} {g : Nat} {bs : List Nat} {xs : List (List UInt8)} {n k : Nat} (h : Left w0 g bs xs n k w) {b : Nat} {x : List UInt8} (hb : bs[k]? = some b) (hx : xs[k]? = some x) (i : Nat) (y : UInt8) :
    Left w0 g bs xs n (k + 1) (w.setCell ⟨b, i, none⟩ (u8 y)) ∧ Whole (w.setCell ⟨b, i, none⟩ (u8 y)) b 5 (u8s (x.set i y)).toArray := by
  obtain ⟨h1, h2⟩ := h.each k b x (Nat.le_refl _) hb hx
  refine ⟨⟨h.row.far (q := ⟨b, i, none⟩) (fun e => Whole.ne h.row h2 (by decide) e) _, h.len, fun j b' x' hj hb' hx' => ?_, h.nodup, h.below.setCell h1 _⟩, ?_⟩
  · obtain ⟨k1, k2⟩ := h.each j b' x' (by omega) hb' hx'
    refine ⟨k1, k2.far (q := ⟨b, i, none⟩) (fun e => ?_) _⟩
    have e : b' = b := e
    subst e
    have hlt := (List.getElem?_eq_some_iff.1 hb').1
    obtain ⟨hk, e1⟩ := List.getElem?_eq_some_iff.1 hb
    obtain ⟨_, e2⟩ := List.getElem?_eq_some_iff.1 hb'
    exact (List.pairwise_iff_getElem.1 h.nodup k j hk hlt (by omega)) (e1.trans e2.symm)
  · have := h2.store i (u8 y)
    rw [List.setIfInBounds_toArray] at this
    unfold u8s
    rw [List.map_set]
    exact this
set_option maxRecDepth 100000
set_option maxHeartbeats 4000000 in
theorem walk (A : Option Addr) (c : Nat) (l : List UInt8) (at_ : Int) (y : UInt8) (w : World) (hB : BytesAt w A l) (hc : l.length ≤ c) (hm : c ≤ 140737488351232) (hat : -9223372036854775808 ≤ at_ ∧ at_ ≤ 9223372036854775807) :
    Calls Try.prog 9 #[.slice A l.length c, .int .i64 at_, .int .u8 (y.toNat : Int)] w (LK.True_ w) := by
  have HA := Lib.hid (awake_any w)
  have HB := Lib.hid hB
  clear hB
  go_enter Try.func9, Try.ntmps9
  go_wp2_with fail
  go_at_call 12
  with_reducible refine HA.out.mono ?_
  rintro e w1 ⟨rfl, HB1⟩
  have HX1 := Lib.hid (HB.out.below HB1.out)
  have hl47 : l.length ≤ 140737488355328 := by omega
  go_wp2_with (at_builtin; refine app_all rfl (.tmp 16) (.tmp 17) rfl A c l.length l rfl HX1.out w1.heap.size rfl rfl rfl hl47 ?_; intro A5 n5 c5 w5 hM; obtain ⟨HN5, HB5, HO5, HE5, hn5, hc5⟩ := hM)
  go_at_call 11
  refine (Pack_any 1 5 l n5 A5 c5 w5 HB5.out HN5.out.symm ⟨hn5, hc5⟩).mono ?_
  rintro e w6 ⟨HB6, h6⟩
  have HBW := Lib.hid (below_on2 (below_on2 HB1.out (.inl HB1.out.size) HE5.out) (.inl (Nat.le_trans HB1.out.size HE5.out.size)) HB6.out)
  rcases h6 with ⟨gn, sn, bs, HG, rfl, HP⟩ | ⟨HE, rfl⟩
  · by_cases t1 : at_ < 0
    · go_wp2_with fail
      go_ret
      exact ⟨rfl, HBW.out⟩
    · by_cases t2 : 64 ≤ at_
      · go_wp2_with fail
        go_ret
        exact ⟨rfl, HBW.out⟩
      · by_cases t3 : y.toNat = 0
        · have t4 : ((y.toNat : Int) == 0) = true := by simp [t3]
          clear t3
          go_wp2_with fail
          go_ret
          exact ⟨rfl, HBW.out⟩
        · have t4 : ((y.toNat : Int) == 0) = false := by simpa using t3
          obtain ⟨p, rfl⟩ : ∃ p : Nat, at_ = (p : Int) := ⟨at_.toNat, by omega⟩
          have hp64 : p < 64 := by omega
          obtain ⟨e1, e2, e3, e4, e5⟩ := HG.out
          have HNE := Lib.hid (fun x : UInt8 => turned_ne (x := x) t3)
          have HPLN := Lib.hid (SC.pack_len gn sn l)
          have hnp4 : SC.np l ≤ 4 := by unfold SC.np; omega
          have hnp1 : 0 < SC.np l := SC.np_pos l
          have HGD := Lib.hid (fun k (hk : k < SC.np l) => SC.part_good (s := sn) (d := l) e3 e4 e5 hk)
          have HAT := Lib.hid (fun k (hk : k < SC.np l) => SC.pack_at (g := gn) (s := sn) hk)
          have HLS := Lib.hid (Left.start HP.out (Nat.le_trans HB1.out.size HE5.out.size) HBW.out)
          generalize SC.np l = m at *
          clear t3 e1 e2 e3 e4 e5
          go_wp2_with fail
          go_loopw [38] (fun i wr => ∃ k : Nat, i = .int .i64 (k : Int) ∧ k ≤ m ∧ Hid (Left w w5.heap.size bs (SC.pack gn sn l) m k wr)) (fun i _ => m - (intOf i).toNat)
          case atStart => exact ⟨0, rfl, Nat.zero_le _, HLS⟩
          case round =>
            obtain ⟨k, rfl, hk, HL⟩ := hrel
            by_cases hlt : k < m
            · have hkb : k < bs.length := by rw [HL.out.len, HPLN.out]; exact hlt
              obtain ⟨b, hb⟩ : ∃ b, bs[k]? = some b := ⟨_, List.getElem?_eq_getElem hkb⟩
              have hx := HAT.out k hlt
              have HIS := Lib.hid (show SC.Is (SC.lay (SC.part gn sn l k)) (SC.part gn sn l k) from ⟨HGD.out k hlt, rfl⟩)
              have hl64 := HIS.out.len
              generalize SC.part gn sn l k = P at *
              generalize SC.lay P = x at *
              obtain ⟨v0, hv0⟩ : ∃ v0, x[p]? = some v0 := ⟨_, List.getElem?_eq_getElem (by omega)⟩
              have a0 : wr.cell? ⟨w5.heap.size, k, none⟩ = some (.slice (some ⟨b, 0, none⟩) 64 64) := by rw [HL.out.row.cell, packCells_hdr hb]; rfl
              have hw := (HL.out.each k b x (Nat.le_refl _) hb hx).2
              have a1 : wr.cell? ⟨b, p, none⟩ = some (.int .u8 (v0.toNat : Int)) := by
                rw [hw.cell, List.getElem?_toArray]
                unfold u8s
                rw [List.getElem?_map, hv0]
                rfl
              have f1 := hw.frozen p
              have hne := HNE.out v0
              have hxor : bits .xor .u8 (v0.toNat : Int) (y.toNat : Int) = ((v0 ^^^ y).toNat : Int) := u8_turn
              generalize v0 ^^^ y = z at hne hxor
              have HT := Lib.hid (HL.out.turn hb hx p z)
              have HNT := Lib.hid (HIS.out.turned (i := p) (x := z) hp64 (by rw [hv0]; exact fun e => hne (Option.some.inj e)))
              have hlset : (x.set p z).length = 64 := by rw [List.length_set]; exact hl64
              clear hne hb hx hw hv0 hl64 hkb
              have HHX := Lib.hid hlset
              clear hlset
              go_upto_region 10 with (fail)
              have HT' := Lib.hid (show Left w w5.heap.size bs (SC.pack gn sn l) m (k + 1) (wr.setCell ⟨b, p, none⟩ (.int .u8 (z.toNat : Int))) ∧ Whole (wr.setCell ⟨b, p, none⟩ (.int .u8 (z.toNat : Int))) b 5 (u8s (x.set p z)).toArray from HT.out)
              clear HT hxor a0 a1 f1
              generalize wr.setCell ⟨b, p, none⟩ (.int .u8 (z.toNat : Int)) = wz at HT' ⊢
              go_wp2_with fail
              go_at_call 15
              refine (Look_any (some ⟨b, 0, none⟩) 64 64 (x.set p z) wz (Whole.reads HT'.out.2) HHX.out (by omega) (by omega)).mono ?_
              rintro e w8 ⟨HB8, ⟨q, v8, HI8, rfl, HO8⟩ | ⟨HN8, rfl⟩⟩
              · exact absurd HI8.out (HNT.out _)
              · have HL8 := Lib.hid (HT'.out.1.on HB8.out)
                have HXZ := Lib.hid (Whole.new w8 33 #[.int .i64 0, .int .i64 0, .int .i64 0, .int .i64 0, .slice none 0 0])
                have HLZ := Lib.hid (HL8.out.on ((Below.refl w8.heap.size w8).alloc (Nat.le_refl _) (.cells #[.int .i64 0, .int .i64 0, .int .i64 0, .int .i64 0, .slice none 0 0] 33)))
                have HSM := Lib.hid (same_yes ⟨0, 0, 0, 0, []⟩ none none 0 0 0 (w8.alloc (.cells #[.int .i64 0, .int .i64 0, .int .i64 0, .int .i64 0, .slice none 0 0] 33)) (BytesAt.nil _ _) (BytesAt.nil _ _) rfl)
                unfold pv pcells at HSM
                simp only [Int.natCast_zero] at HSM
                unfold none5
                go_upto_region 11 with (fail)
                generalize w8.alloc _ = w9 at HXZ HLZ HSM ⊢
                obtain ⟨b0, b1, b2, b3, b4⟩ := (show w9.cell? ⟨w8.heap.size, 0, none⟩ = some (.int .i64 0) ∧ w9.cell? ⟨w8.heap.size, 1, none⟩ = some (.int .i64 0) ∧ w9.cell? ⟨w8.heap.size, 2, none⟩ = some (.int .i64 0) ∧ w9.cell? ⟨w8.heap.size, 3, none⟩ = some (.int .i64 0) ∧ w9.cell? ⟨w8.heap.size, 4, none⟩ = some (.slice none 0 0) from ⟨HXZ.out.cell 0, HXZ.out.cell 1, HXZ.out.cell 2, HXZ.out.cell 3, HXZ.out.cell 4⟩)
                go_wp2_with fail
                go_at_call 17
                refine HSM.out.mono ?_
                rintro e wA ⟨rfl, HBB⟩
                have HLA := Lib.hid (HLZ.out.on HBB.out)
                clear b0 b1 b2 b3 b4
                go_wp2_with fail
                go_roundw
                case rel => exact ⟨k + 1, by go_num, hlt, HLA⟩
                case measure => simp only [intOf]; go_num
            · obtain rfl : k = m := by omega
              have hm1 : (0 : Int) < (k : Int) := by omega
              go_wp2_with fail
              go_ret
              exact ⟨rfl, HL.out.below⟩
  · generalize hpe : packErr 1 5 l.length = pe at *
    have hpe0 : (pe == 0) = false := by simpa using HE.out
    clear hpe
    go_wp2_with fail
    go_ret
    exact ⟨rfl, HBW.out⟩

end Go.Proofs.Ytlnahmgcjaodkaa.lawSectorsTurned
