/- The walk of PathsetOwn, over any sets: lists that are answered share no memory, two sets do not touch each other. -/
import Derived.Test.YtpfljooceppcbaaDoorPsOS3
namespace Go.Proofs.YtpfljooceppcbaaDoor.ahead
open Go.RowKit
open SE (Ent)
set_option linter.unusedVariables false
set_option linter.unusedSimpArgs false
set_option maxRecDepth 100000
/-- Two sets with the same list. -/
structure Pair (S : Sets) (w1 w : World) (gs gt : Nat) (L M : List Ent) (Fs Ft : List Nat) : Prop where
  below : Below w1.heap.size w1 w
  s : S.Is w gs L Fs
  t : S.Is w gt M Ft
  ls : ∀ b ∈ Fs, w1.heap.size ≤ b
  lt : ∀ b ∈ Ft, w1.heap.size ≤ b
  far : ∀ b ∈ Fs, b ∉ Ft
theorem Pair.on {S : Sets} {w1 w w' : World} {gs gt : Nat} {L M : List Ent} {Fs Ft : List Nat} (h : Pair S w1 w gs gt L M Fs Ft) (hb : Below w.heap.size w w') : Pair S w1 w' gs gt L M Fs Ft := ⟨below_on h.below hb, Sets.below h.s hb, Sets.below h.t hb, h.ls, h.lt, h.far⟩
theorem Pair.mid {S : Sets} {w1 w w' : World} {gs gt : Nat} {L M : List Ent} {Fs Ft : List Nat} (h : Pair S w1 w gs gt L M Fs Ft) (hb : Below w.heap.size w w') : Pair S w1 w' gs gt L M Fs Ft := h.on hb
theorem Pair.apart {S : Sets} {w1 w w' : World} {gs gt : Nat} {L M : List Ent} {Fs Ft G : List Nat} (h : Pair S w1 w gs gt L M Fs Ft) (hm : Mod G w w') (hG : ∀ b ∈ G, w1.heap.size ≤ b ∧ b ∉ Fs ∧ b ∉ Ft) : Pair S w1 w' gs gt L M Fs Ft :=
  ⟨h.below.trans (hm.below h.below.size (fun b hb => (hG b hb).1)), S.mod h.s hm (fun b hb hg => (hG b hg).2.1 hb), S.mod h.t hm (fun b hb hg => (hG b hg).2.2 hb), h.ls, h.lt, h.far⟩
def Qq (S : Sets) (w2 w : World) (gw gt gs : Nat) (Fw Ft Fs : List Nat) (L : List Ent) (B : Option Addr) : Prop := S.Is w gw L Fw ∧ S.Is w gt L Ft ∧ Dr S w2 w gs Fs [] ∧ EntsAt w B L
theorem Qq.on {S : Sets} {w2 w w' : World} {gw gt gs : Nat} {Fw Ft Fs : List Nat} {L : List Ent} {B : Option Addr} (h : Qq S w2 w gw gt gs Fw Ft Fs L B) (hb : Below w.heap.size w w') : Qq S w2 w' gw gt gs Fw Ft Fs L B := ⟨Sets.below h.1 hb, Sets.below h.2.1 hb, h.2.2.1.on hb, h.2.2.2.below hb⟩
theorem one_num {w : World} {xs : List Int} {x : Ending} {w' : World} (h : OneI w xs x w') : ∃ A c, x = .returned (.slice A xs.length c) ∧ RN w.heap.size w' (.slice A xs.length c) xs ∧ Below w.heap.size w w' ∧ xs.length ≤ c ∧ c ≤ 9223372036854775807 := by
  obtain ⟨A, n, c, rfl, k1, k2, k3, k4, k5, k6⟩ := h
  have := k1.out
  subst this
  exact ⟨A, c, rfl, k3.out, k4.out, k5, k6⟩
theorem one_ent' {w : World} {xs : List Ent} {x : Ending} {w' : World} (h : OneE w xs x w') : ∃ A c, x = .returned (.slice A xs.length c) ∧ w'.ownsRow w.heap.size 25 4 (.slice A xs.length c) xs.length (ents xs) ∧ Below w.heap.size w w' ∧ xs.length ≤ c ∧ c ≤ 9223372036854775807 := by
  obtain ⟨A, n, c, rfl, k1, k2, k3, k4, k5, k6⟩ := h
  have := k1.out
  subst this
  exact ⟨A, c, rfl, k3.out, k4.out, k5, k6⟩
theorem len_clash (L : List Ent) (q : List UInt8) (m who : Int) : (SE.clash L q m who).length ≤ L.length := by unfold SE.clash; rw [SE.rise_len, List.length_map]; exact List.length_filter_le _ _
theorem len_over (L : List Ent) (q : List UInt8) : (SE.over L q).length ≤ L.length := by unfold SE.over; rw [SE.rise_len, List.length_map]; exact List.length_filter_le _ _
theorem len_under (L : List Ent) (q : List UInt8) : (SE.under L q).length ≤ L.length := by unfold SE.under; rw [SE.rise_len, List.length_map]; exact List.length_filter_le _ _
set_option maxHeartbeats 16000000 in
theorem own_walk (S : Sets) (A : Option Addr) (c : Nat) (l : List Ent) (q : ByteArray) (w : World) (hx : HasMax w) (hA : EntsAt w A l) (hl : l.length ≤ c) (hc : c ≤ 9223372036854775807) (hF : ∀ e ∈ l, Fair e) (hq : q.size ≤ 140737488351232) :
    Calls Tryd.prog 4 #[.slice A l.length c, .string q] w fun x w' => x = .returned (.bool true) ∧ Below w.heap.size w w' := by
  have HX := Lib.hid hx; clear hx
  have HA := Lib.hid hA; clear hA
  have HF := Lib.hid hF; clear hF
  go_enter Tryd.func4, Tryd.ntmps4
  go_wp2_with fail
  refine (awake_any S w HX.out).mono ?_
  rintro e w1 ⟨rfl, hb⟩
  have HB1 := Lib.hid hb
  clear hb
  go_wp2_with fail
  refine (filled_any S w1 A c l w1 (HX.out.below HB1.out) (HA.out.below HB1.out) hl hc HF.out (Below.refl _ _)).mono ?_
  rintro e w2 ⟨gs, rfl, HMs⟩
  obtain ⟨Fs, hs1, hs2, hs3, _⟩ := HMs.out
  have HB2 := Lib.hid (below_on HB1.out hs3)
  unfold ptr
  go_wp2_with fail
  refine (filled_any S w2 A c l w2 (HX.out.below HB2.out) (HA.out.below HB2.out) hl hc HF.out (Below.refl _ _)).mono ?_
  rintro e w3 ⟨gt, rfl, HMt⟩
  obtain ⟨Ft, ht1, ht2, ht3, _⟩ := HMt.out
  have HP3 := Lib.hid (show Pair S w1 w3 gs gt (fill l) (fill l) Fs Ft from ⟨below_on hs3 ht3, Sets.below hs1 ht3, ht1, hs2, fun b hb => Nat.le_trans hs3.size (ht2 b hb), fun b hb hb2 => by
    have h1 := S.lt hs1 b hb
    have h2 := ht2 b hb2
    omega⟩)
  have HFs := Lib.hid (fun b hb => Nat.lt_of_lt_of_le (S.lt hs1 b hb) ht3.size)
  have HFt := Lib.hid (S.lt ht1)
  clear hs1 hs2 hs3 ht1 ht2 ht3 HMs HMt
  unfold ptr
  have HP3z := Lib.hid HP3.out.below.size
  have HX3 := Lib.hid (fun w' (hb : Below w1.heap.size w1 w') => HX.out.below (below_on HB1.out hb))
  have HL64 := Lib.hid (show (fill l).length ≤ 64 from (S.inv HP3.out.s).len)
  have HLF := Lib.hid (show fill l = fill l from rfl)
  obtain ⟨L, hLL⟩ : ∃ L, fill l = L := ⟨_, rfl⟩
  rw [hLL] at HP3 HL64
  have HFL := Lib.hid hLL
  clear hLL HLF
  go_wp2_with fail
  refine (S.list HP3.out.s).mono ?_
  rintro e w4 h
  obtain ⟨Aa, ca, rfl, ho, hb, h1a, h2a⟩ := one_ent' h
  have HRa := Lib.hid ho
  have HGa := Lib.hid (fun k hk => ho.lt k hk)
  have HZ3 := Lib.hid hb.size
  have HP4 := Lib.hid (HP3.out.on hb)
  clear h ho hb HP3
  go_wp2_with fail
  refine (S.list HP4.out.s).mono ?_
  rintro e w5 h
  obtain ⟨Ab, cb, rfl, ho, hb, h1b, h2b⟩ := one_ent' h
  have HRb := Lib.hid ho
  have HGb := Lib.hid (fun k hk => ho.lt k hk)
  have HZ4 := Lib.hid hb.size
  have HP5 := Lib.hid (HP4.out.on hb)
  have HRan := Lib.hid ((Mod.of_below hb []).own HRa.out (by simp))
  clear HRa
  have HRa := HRan
  clear HRan
  clear h ho hb HP4
  have hlo : (SE.over L q.data.toList).length ≤ 64 := Nat.le_trans (len_over _ _) HL64.out
  have hlu : (SE.under L q.data.toList).length ≤ 64 := Nat.le_trans (len_under _ _) HL64.out
  have hlc : (SE.clash L q.data.toList 2 (-1)).length ≤ 64 := Nat.le_trans (len_clash _ _ _ _) HL64.out
  have HLO := Lib.hid hlo
  have HLU := Lib.hid hlu
  have HLC := Lib.hid hlc
  clear hlo hlu hlc
  go_wp2_with fail
  refine (S.over HP5.out.s (HX3.out _ HP5.out.below) q hq).mono ?_
  rintro e w6 h
  obtain ⟨A0, c0, rfl, ho, hb, h1_0, h2_0⟩ := one_num h
  have HR0 := Lib.hid ho
  have HG0 := Lib.hid (fun k hk => ho.lt k hk)
  have HZ5 := Lib.hid hb.size
  have HP6 := Lib.hid (HP5.out.on hb)
  have HRan := Lib.hid ((Mod.of_below hb []).own HRa.out (by simp))
  clear HRa
  have HRa := HRan
  clear HRan
  have HRbn := Lib.hid ((Mod.of_below hb []).own HRb.out (by simp))
  clear HRb
  have HRb := HRbn
  clear HRbn
  clear h ho hb HP5
  go_wp2_with fail
  refine (S.over HP6.out.s (HX3.out _ HP6.out.below) q hq).mono ?_
  rintro e w7 h
  obtain ⟨A1, c1, rfl, ho, hb, h1_1, h2_1⟩ := one_num h
  have HR1 := Lib.hid ho
  have HG1 := Lib.hid (fun k hk => ho.lt k hk)
  have HZ6 := Lib.hid hb.size
  have HP7 := Lib.hid (HP6.out.on hb)
  have HRan := Lib.hid ((Mod.of_below hb []).own HRa.out (by simp))
  clear HRa
  have HRa := HRan
  clear HRan
  have HRbn := Lib.hid ((Mod.of_below hb []).own HRb.out (by simp))
  clear HRb
  have HRb := HRbn
  clear HRbn
  have HR0n := Lib.hid (HR0.out.on hb)
  clear HR0
  have HR0 := HR0n
  clear HR0n
  clear h ho hb HP6
  go_wp2_with fail
  refine (S.under HP7.out.s (HX3.out _ HP7.out.below) q hq).mono ?_
  rintro e w8 h
  obtain ⟨A2, c2, rfl, ho, hb, h1_2, h2_2⟩ := one_num h
  have HR2 := Lib.hid ho
  have HG2 := Lib.hid (fun k hk => ho.lt k hk)
  have HZ7 := Lib.hid hb.size
  have HP8 := Lib.hid (HP7.out.on hb)
  have HRan := Lib.hid ((Mod.of_below hb []).own HRa.out (by simp))
  clear HRa
  have HRa := HRan
  clear HRan
  have HRbn := Lib.hid ((Mod.of_below hb []).own HRb.out (by simp))
  clear HRb
  have HRb := HRbn
  clear HRbn
  have HR0n := Lib.hid (HR0.out.on hb)
  clear HR0
  have HR0 := HR0n
  clear HR0n
  have HR1n := Lib.hid (HR1.out.on hb)
  clear HR1
  have HR1 := HR1n
  clear HR1n
  clear h ho hb HP7
  go_wp2_with fail
  refine (S.under HP8.out.s (HX3.out _ HP8.out.below) q hq).mono ?_
  rintro e w9 h
  obtain ⟨A3, c3, rfl, ho, hb, h1_3, h2_3⟩ := one_num h
  have HR3 := Lib.hid ho
  have HG3 := Lib.hid (fun k hk => ho.lt k hk)
  have HZ8 := Lib.hid hb.size
  have HP9 := Lib.hid (HP8.out.on hb)
  have HRan := Lib.hid ((Mod.of_below hb []).own HRa.out (by simp))
  clear HRa
  have HRa := HRan
  clear HRan
  have HRbn := Lib.hid ((Mod.of_below hb []).own HRb.out (by simp))
  clear HRb
  have HRb := HRbn
  clear HRbn
  have HR0n := Lib.hid (HR0.out.on hb)
  clear HR0
  have HR0 := HR0n
  clear HR0n
  have HR1n := Lib.hid (HR1.out.on hb)
  clear HR1
  have HR1 := HR1n
  clear HR1n
  have HR2n := Lib.hid (HR2.out.on hb)
  clear HR2
  have HR2 := HR2n
  clear HR2n
  clear h ho hb HP8
  go_wp2_with fail
  refine (S.clash HP9.out.s (HX3.out _ HP9.out.below) q 2 (-1) hq).mono ?_
  rintro e w10 h
  obtain ⟨A4, c4, rfl, ho, hb, h1_4, h2_4⟩ := one_num h
  have HR4 := Lib.hid ho
  have HG4 := Lib.hid (fun k hk => ho.lt k hk)
  have HZ9 := Lib.hid hb.size
  have HP10 := Lib.hid (HP9.out.on hb)
  have HRan := Lib.hid ((Mod.of_below hb []).own HRa.out (by simp))
  clear HRa
  have HRa := HRan
  clear HRan
  have HRbn := Lib.hid ((Mod.of_below hb []).own HRb.out (by simp))
  clear HRb
  have HRb := HRbn
  clear HRbn
  have HR0n := Lib.hid (HR0.out.on hb)
  clear HR0
  have HR0 := HR0n
  clear HR0n
  have HR1n := Lib.hid (HR1.out.on hb)
  clear HR1
  have HR1 := HR1n
  clear HR1n
  have HR2n := Lib.hid (HR2.out.on hb)
  clear HR2
  have HR2 := HR2n
  clear HR2n
  have HR3n := Lib.hid (HR3.out.on hb)
  clear HR3
  have HR3 := HR3n
  clear HR3n
  clear h ho hb HP9
  go_wp2_with fail
  refine (S.clash HP10.out.s (HX3.out _ HP10.out.below) q 2 (-1) hq).mono ?_
  rintro e w11 h
  obtain ⟨A5, c5, rfl, ho, hb, h1_5, h2_5⟩ := one_num h
  have HR5 := Lib.hid ho
  have HG5 := Lib.hid (fun k hk => ho.lt k hk)
  have HZ10 := Lib.hid hb.size
  have HP11 := Lib.hid (HP10.out.on hb)
  have HRan := Lib.hid ((Mod.of_below hb []).own HRa.out (by simp))
  clear HRa
  have HRa := HRan
  clear HRan
  have HRbn := Lib.hid ((Mod.of_below hb []).own HRb.out (by simp))
  clear HRb
  have HRb := HRbn
  clear HRbn
  have HR0n := Lib.hid (HR0.out.on hb)
  clear HR0
  have HR0 := HR0n
  clear HR0n
  have HR1n := Lib.hid (HR1.out.on hb)
  clear HR1
  have HR1 := HR1n
  clear HR1n
  have HR2n := Lib.hid (HR2.out.on hb)
  clear HR2
  have HR2 := HR2n
  clear HR2n
  have HR3n := Lib.hid (HR3.out.on hb)
  clear HR3
  have HR3 := HR3n
  clear HR3n
  have HR4n := Lib.hid (HR4.out.on hb)
  clear HR4
  have HR4 := HR4n
  clear HR4n
  clear h ho hb HP10
  obtain ⟨xo, hxo⟩ : ∃ x, SE.over L q.data.toList = x := ⟨_, rfl⟩
  obtain ⟨xu, hxu⟩ : ∃ x, SE.under L q.data.toList = x := ⟨_, rfl⟩
  obtain ⟨xc, hxc⟩ : ∃ x, SE.clash L q.data.toList 2 (-1) = x := ⟨_, rfl⟩
  rw [hxo] at HR0 HR1 HG0 HG1 HLO h1_0 h1_1 ⊢
  rw [hxu] at HR2 HR3 HG2 HG3 HLU h1_2 h1_3 ⊢
  rw [hxc] at HR4 HR5 HG4 HG5 HLC h1_4 h1_5 ⊢
  clear hxo hxu hxc
  skip
  have hbI := (Below.refl _ w11).alloc (Nat.le_refl _) (.cells #[Value.slice A0 xo.length c0, Value.slice A1 xo.length c1, Value.slice A2 xu.length c2, Value.slice A3 xu.length c3, Value.slice A4 xc.length c4, Value.slice A5 xc.length c5] 36)
  have HP12 := Lib.hid (HP11.out.on hbI)
  have HI := Lib.hid (Whole.new w11 36 #[Value.slice A0 xo.length c0, Value.slice A1 xo.length c1, Value.slice A2 xu.length c2, Value.slice A3 xu.length c3, Value.slice A4 xc.length c4, Value.slice A5 xc.length c5])
  have HRan := Lib.hid ((Mod.of_below hbI []).own HRa.out (by simp))
  clear HRa
  have HRa := HRan
  clear HRan
  have HRbn := Lib.hid ((Mod.of_below hbI []).own HRb.out (by simp))
  clear HRb
  have HRb := HRbn
  clear HRbn
  have HR0n := Lib.hid (HR0.out.on hbI)
  clear HR0
  have HR0 := HR0n
  clear HR0n
  have HR1n := Lib.hid (HR1.out.on hbI)
  clear HR1
  have HR1 := HR1n
  clear HR1n
  have HR2n := Lib.hid (HR2.out.on hbI)
  clear HR2
  have HR2 := HR2n
  clear HR2n
  have HR3n := Lib.hid (HR3.out.on hbI)
  clear HR3
  have HR3 := HR3n
  clear HR3n
  have HR4n := Lib.hid (HR4.out.on hbI)
  clear HR4
  have HR4 := HR4n
  clear HR4n
  have HR5n := Lib.hid (HR5.out.on hbI)
  clear HR5
  have HR5 := HR5n
  clear HR5n
  have HS12 := Lib.hid hbI.size
  clear hbI HP11
  obtain ⟨X, hX⟩ : ∃ X : Nat → List Int, X = fun k => if k < 2 then xo else if k < 4 then xu else xc := ⟨_, rfl⟩
  have HH := Lib.hid (show ∀ k, k < 6 → ∃ A c, #[Value.slice A0 xo.length c0, Value.slice A1 xo.length c1, Value.slice A2 xu.length c2, Value.slice A3 xu.length c3, Value.slice A4 xc.length c4, Value.slice A5 xc.length c5][k]? = some (.slice A (X k).length c) ∧ RN w5.heap.size (w11.alloc (.cells #[Value.slice A0 xo.length c0, Value.slice A1 xo.length c1, Value.slice A2 xu.length c2, Value.slice A3 xu.length c3, Value.slice A4 xc.length c4, Value.slice A5 xc.length c5] 36)) (.slice A (X k).length c) (X k) ∧ (X k).length ≤ 64 ∧ (X k).length ≤ c ∧ c ≤ 9223372036854775807 from by
    have z5 := HZ5.out; have z6 := HZ6.out; have z7 := HZ7.out; have z8 := HZ8.out; have z9 := HZ9.out
    subst hX
    intro k hk
    obtain rfl | rfl | rfl | rfl | rfl | rfl : k = 0 ∨ k = 1 ∨ k = 2 ∨ k = 3 ∨ k = 4 ∨ k = 5 := by omega
    · exact ⟨_, _, rfl, own_base HR0.out (by omega), HLO.out, h1_0, h2_0⟩
    · exact ⟨_, _, rfl, own_base HR1.out (by omega), HLO.out, h1_1, h2_1⟩
    · exact ⟨_, _, rfl, own_base HR2.out (by omega), HLU.out, h1_2, h2_2⟩
    · exact ⟨_, _, rfl, own_base HR3.out (by omega), HLU.out, h1_3, h2_3⟩
    · exact ⟨_, _, rfl, own_base HR4.out (by omega), HLC.out, h1_4, h2_4⟩
    · exact ⟨_, _, rfl, own_base HR5.out (by omega), HLC.out, h1_5, h2_5⟩
  )
  have HXX := Lib.hid hX
  clear hX
  go_wp2_with fail
  go_loopw [10, 12, 54] (fun v _ i wx => ∃ k : Nat, i = .int .i64 (k : Int) ∧ k ≤ 6 ∧ Hid (Kp (w11.alloc (.cells #[Value.slice A0 xo.length c0, Value.slice A1 xo.length c1, Value.slice A2 xu.length c2, Value.slice A3 xu.length c3, Value.slice A4 xc.length c4, Value.slice A5 xc.length c5] 36)).heap.size wx X k v) ∧ Hid (Below (w11.alloc (.cells #[Value.slice A0 xo.length c0, Value.slice A1 xo.length c1, Value.slice A2 xu.length c2, Value.slice A3 xu.length c3, Value.slice A4 xc.length c4, Value.slice A5 xc.length c5] 36)).heap.size (w11.alloc (.cells #[Value.slice A0 xo.length c0, Value.slice A1 xo.length c1, Value.slice A2 xu.length c2, Value.slice A3 xu.length c3, Value.slice A4 xc.length c4, Value.slice A5 xc.length c5] 36)) wx)) (fun _ _ i _ => 6 - (intOf i).toNat)
  case atStart => exact ⟨0, rfl, by omega, Lib.hid Kp.nil, Lib.hid (Below.refl _ _)⟩
  case round =>
    obtain ⟨k, rfl, hk, HK, HB⟩ := hrel
    by_cases hlt : k < 6
    · obtain ⟨A, c, hcell, hr, hl64, hlc, hcm⟩ := HH.out k hlt
      have HRx := Lib.hid (RN.on hr HB.out)
      have hid := (HI.out.cell k)
      rw [hcell] at hid
      have hcx : wr.cell? ⟨w11.heap.size, k, none⟩ = some (.slice A (X k).length c) := ((Mod.of_below HB.out []).cell (p := ⟨w11.heap.size, k, none⟩) HI.out.lt (by simp)).trans hid
      have HIN := Lib.hid (IntsAt.own HRx.out)
      clear hcell hr hid
      have HLEN := Lib.hid (show (X k).length * 8 ≤ 140737488355328 by omega)
      have HSZ := Lib.hid HB.out.size
      go_wp2_with (first
        | (at_builtin; refine app_all rfl (.tmp 59) (.tmp 60) rfl A c _ (X k) rfl HIN.out _ rfl rfl rfl HLEN.out ?_; intro Ay ny cy w5x hm5; obtain ⟨HN5, HI5, HO5, HB5, k5, k5'⟩ := hm5; have e5 := HN5.out; subst e5; have HS5 := Lib.hid HB5.out.size; have HK5 := Lib.hid (HK.out.on HB5.out); have HO6 := Lib.hid (show RN (w11.alloc (.cells #[Value.slice A0 xo.length c0, Value.slice A1 xo.length c1, Value.slice A2 xu.length c2, Value.slice A3 xu.length c3, Value.slice A4 xc.length c4, Value.slice A5 xc.length c5] 36)).heap.size w5x (.slice Ay (X k).length cy) (X k) from own_base HO5.out HSZ.out))
        | (at_builtin; refine app_keep rfl (.tmp 58) (.tmp 62) rfl (HK5.out.on ((Below.refl _ w5x).alloc (Nat.le_refl _) _)) (HO6.out.on ((Below.refl _ w5x).alloc (Nat.le_refl _) _)) k5 k5' (Whole.new w5x _ _) (by omega) (Nat.le_trans (Nat.le_trans HSZ.out HS5.out) (by rw [size_alloc]; exact Nat.le_succ _)) rfl rfl ?_; intro v6 w6x hk6 hb6; have HK6 := Lib.hid hk6; have HB6 := Lib.hid hb6; clear hk6 hb6))
      go_roundw
      case rel => exact ⟨k + 1, by go_num, by omega, HK6.out, Lib.hid (((HB.out.trans (HB5.out.mono HSZ.out)).alloc (Nat.le_trans HSZ.out HS5.out) _).trans HB6.out)⟩
      case measure => simp [intOf]; omega
    · have h6 : k = 6 := by omega
      subst h6
      try rw [show ((6 : Nat) : Int) = 6 from rfl]
      clear hlt hk
      obtain ⟨w13, e13⟩ : ∃ x, x = wr := ⟨_, rfl⟩
      subst e13
      obtain ⟨vq, eq⟩ : ∃ x, x = u10 := ⟨_, rfl⟩
      subst eq
      have HP13 := Lib.hid (HP12.out.mid HB.out)
      have HI13 := Lib.hid ((Mod.of_below HB.out []).whole HI.out (by simp))
      have HRan := Lib.hid ((Mod.of_below HB.out []).own HRa.out (by simp))
      clear HRa
      have HRa := HRan
      clear HRan
      have HRbn := Lib.hid ((Mod.of_below HB.out []).own HRb.out (by simp))
      clear HRb
      have HRb := HRbn
      clear HRbn
      have HR0n := Lib.hid (HR0.out.on HB.out)
      clear HR0
      have HR0 := HR0n
      clear HR0n
      have HR1n := Lib.hid (HR1.out.on HB.out)
      clear HR1
      have HR1 := HR1n
      clear HR1n
      have HR2n := Lib.hid (HR2.out.on HB.out)
      clear HR2
      have HR2 := HR2n
      clear HR2n
      have HR3n := Lib.hid (HR3.out.on HB.out)
      clear HR3
      have HR3 := HR3n
      clear HR3n
      have HR4n := Lib.hid (HR4.out.on HB.out)
      clear HR4
      have HR4 := HR4n
      clear HR4n
      have HR5n := Lib.hid (HR5.out.on HB.out)
      clear HR5
      have HR5 := HR5n
      clear HR5n
      obtain ⟨T, hT⟩ : ∃ T : List Nat, T = (Value.slice Aa L.length ca).ownBlock.toList ++ ((Value.slice A0 xo.length c0).ownBlock.toList ++ ((Value.slice A2 xu.length c2).ownBlock.toList ++ ((Value.slice A4 xc.length c4).ownBlock.toList ++ [w11.heap.size]))) := ⟨_, rfl⟩
      have hz : w.heap.size ≤ w3.heap.size := Nat.le_trans HB1.out.size HP3z.out
      have z3 := HZ3.out; have z4 := HZ4.out; have z5 := HZ5.out; have z6 := HZ6.out; have z7 := HZ7.out; have z8 := HZ8.out; have z9 := HZ9.out; have z10 := HZ10.out
      have z12 : w11.heap.size < (w11.alloc (.cells #[Value.slice A0 xo.length c0, Value.slice A1 xo.length c1, Value.slice A2 xu.length c2, Value.slice A3 xu.length c3, Value.slice A4 xc.length c4, Value.slice A5 xc.length c5] 36)).heap.size := HI.out.lt
      have z13 := HB.out.size
      have HTR := Lib.hid (show ∀ k ∈ T, (w3.heap.size ≤ k ∧ k < w4.heap.size) ∨ (w5.heap.size ≤ k ∧ k < w6.heap.size) ∨ (w7.heap.size ≤ k ∧ k < w8.heap.size) ∨ (w9.heap.size ≤ k ∧ k < w10.heap.size) ∨ k = w11.heap.size from by
        intro k hk
        rw [hT] at hk
        simp only [List.mem_append, List.mem_singleton] at hk
        rcases hk with h | h | h | h | h
        · exact .inl (HGa.out k (blk_toList h))
        · exact .inr (.inl (HG0.out k (blk_toList h)))
        · exact .inr (.inr (.inl (HG2.out k (blk_toList h))))
        · exact .inr (.inr (.inr (.inl (HG4.out k (blk_toList h)))))
        · exact .inr (.inr (.inr (.inr h))))
      have HIT : ∀ {u : Value} {k : Nat}, u.ownBlock = some k → k ∈ u.ownBlock.toList := fun h => by rw [h]; simp
      have HWK := Lib.hid (show Wk w w13 w13 T w11.heap.size 64 (Value.slice A1 xo.length c1) (Value.slice A3 xu.length c3) (Value.slice A5 xc.length c5) (Value.slice Aa L.length ca) from ⟨_, _, _, Mod.refl _ _, by omega, HI13.out, by rw [hT]; simp, ⟨L, own_base HRa.out hz, HL64.out⟩, ⟨xo, own_base HR0.out (by omega), HLO.out⟩, ⟨xu, own_base HR2.out (by omega), HLU.out⟩, ⟨xc, own_base HR4.out (by omega), HLC.out⟩,
        fun k hk => .inl (by rw [hT]; simp only [List.mem_append]; exact .inl (HIT hk)), fun k hk => .inl (by rw [hT]; simp only [List.mem_append]; exact .inr (.inl (HIT hk))), fun k hk => .inl (by rw [hT]; simp only [List.mem_append]; exact .inr (.inr (.inl (HIT hk)))), fun k hk => .inl (by rw [hT]; simp only [List.mem_append]; exact .inr (.inr (.inr (.inl (HIT hk))))),
        fun k h1 h2 => by have := HG0.out k h1; have := HG2.out k h2; omega, fun k h1 h2 => by have := HG0.out k h1; have := HG4.out k h2; omega, fun k h1 h2 => by have := HG2.out k h1; have := HG4.out k h2; omega⟩)
      have HKT := Lib.hid (show ∀ k ∈ T, k < (w11.alloc (.cells #[Value.slice A0 xo.length c0, Value.slice A1 xo.length c1, Value.slice A2 xu.length c2, Value.slice A3 xu.length c3, Value.slice A4 xc.length c4, Value.slice A5 xc.length c5] 36)).heap.size from fun k hk => by rcases HTR.out k hk with h | h | h | h | h <;> omega)
      have HPT := Lib.hid (show ∀ k ∈ T, w1.heap.size ≤ k ∧ k ∉ Fs ∧ k ∉ Ft from fun k hk => by
        have h3 : w3.heap.size ≤ k := by rcases HTR.out k hk with h | h | h | h | h <;> omega
        exact ⟨Nat.le_trans HP3z.out h3, fun h => by have := HFs.out k h; omega, fun h => by have := HFt.out k h; omega⟩)
      have HbT := Lib.hid (show ∀ k, (Value.slice Ab L.length cb).ownBlock = some k → k ∉ T from fun k h1 hk => by have := HGb.out k h1; rcases HTR.out k hk with h | h | h | h | h <;> omega)
      have H1T := Lib.hid (show ∀ k, (Value.slice A1 xo.length c1).ownBlock = some k → k ∉ T from fun k h1 hk => by have := HG1.out k h1; rcases HTR.out k hk with h | h | h | h | h <;> omega)
      have H3T := Lib.hid (show ∀ k, (Value.slice A3 xu.length c3).ownBlock = some k → k ∉ T from fun k h1 hk => by have := HG3.out k h1; rcases HTR.out k hk with h | h | h | h | h <;> omega)
      have H5T := Lib.hid (show ∀ k, (Value.slice A5 xc.length c5).ownBlock = some k → k ∉ T from fun k h1 hk => by have := HG5.out k h1; rcases HTR.out k hk with h | h | h | h | h <;> omega)
      have HbF := Lib.hid (show ∀ k, (Value.slice Ab L.length cb).ownBlock = some k → k ∉ Fs from fun k h1 hk => by have := HGb.out k h1; have := HFs.out k hk; omega)
      have HS311 := Lib.hid (show w3.heap.size ≤ w11.heap.size by omega)
      have HSW := Lib.hid (show w.heap.size ≤ w13.heap.size by omega)
      have HHT := Lib.hid hT
      clear hT hz z3 z4 z5 z6 z7 z8 z9 z10 z12 z13 HIT HTR
      clear HGa HGb HG0 HG1 HG2 HG3 HG4 HG5 HZ3 HZ4 HZ5 HZ6 HZ7 HZ8 HZ9 HZ10 HI13 HP12 HP3z HRa HR0 HR2 HR4
      go_wp2_with fail
      go_loopw [13, 67] (fun _ i wx => ∃ k : Nat, i = .int .i64 (k : Int) ∧ k ≤ L.length ∧ Hid (Wk w w13 wx T w11.heap.size 64 (Value.slice A1 xo.length c1) (Value.slice A3 xu.length c3) (Value.slice A5 xc.length c5) (Value.slice Aa L.length ca))) (fun _ i _ => L.length - (intOf i).toNat)
      case atStart => exact ⟨0, rfl, by omega, HWK⟩
      case round =>
        obtain ⟨k, rfl, hk, HW⟩ := hrel
        by_cases hlt : k < L.length
        · obtain ⟨p, y0, y1, y2, y3, eA, q0, q1, q2, q3, hfr, hst⟩ := HW.out.ra.cell hlt ⟨-9, ⟨#[]⟩, 0, 0⟩
          have HA1 := Lib.hid eA
          clear eA
          have HST := Lib.hid hst
          clear hst
          have f0 := hfr (k * 4); have f1 := hfr (k * 4 + 1); have f2 := hfr (k * 4 + 2); have f3 := hfr (k * 4 + 3)
          have hown : (Value.slice Aa L.length ca).ownBlock = some p := by rw [HA1.out]; rfl
          have HOW := Lib.hid hown
          clear hown
          have HIN := Lib.hid (show p ∈ (Value.slice Aa L.length ca).ownBlock.toList by rw [HOW.out]; simp)
          rw [HA1.out]
          go_wp2_with fail
          refine ⟨⟨k + 1, by go_num, by omega, Lib.hid ?_⟩, by simp [intOf]; omega⟩
          have h9 := HW.out.turnA (((((Mod.refl _ wr).store (p := ⟨p, k * 4, none⟩) (.inl HIN.out) _).store (p := ⟨p, k * 4 + 1, none⟩) (.inl HIN.out) _).store (p := ⟨p, k * 4 + 2, none⟩) (.inl HIN.out) _).store (p := ⟨p, k * 4 + 3, none⟩) (.inl HIN.out) _) HST.out (Nat.le_refl _) (.inl rfl)
          rw [HA1.out] at h9
          exact h9
        · have e6 : k = L.length := by omega
          subst e6
          clear hlt hk
          go_wp2_with fail
          go_loopw [14, 15] (fun kk _ wx => ∃ k : Nat, kk = .int .i64 (k : Int) ∧ (k = 0 ∨ k = 2 ∨ k = 4 ∨ k = 6) ∧ Hid (Wk w w13 wx T w11.heap.size 64 (Value.slice A1 xo.length c1) (Value.slice A3 xu.length c3) (Value.slice A5 xc.length c5) (Value.slice Aa L.length ca))) (fun kk _ _ => 6 - (intOf kk).toNat)
          case atStart => exact ⟨0, rfl, .inl rfl, HW⟩
          case round =>
            obtain ⟨k, rfl, hk, HW⟩ := hrel
            by_cases hlt : k < 6
            · obtain ⟨cs, u, o1, o2, hTn, hcu, hback, _⟩ := HW.out.pick (k := k) (by omega)
              obtain ⟨Au, n, cu, rfl, hn64, hnc, hcm⟩ := hTn.rk.shape
              have HB1k := Lib.hid hback
              have HTN := Lib.hid hTn
              have hq := (hTn.ids.cell k).trans hcu
              have HCU := Lib.hid hcu
              clear hback hTn hcu
              go_wp2_with fail
              go_loopw [15, 86] (fun _ i wx => ∃ j : Nat, i = .int .i64 (j : Int) ∧ j ≤ n ∧ Hid (Tn w w13 wx T w11.heap.size 64 cs (Value.slice Aa L.length ca) (.slice Au n cu) o1 o2)) (fun _ i _ => n - (intOf i).toNat)
              case atStart => exact ⟨0, rfl, by omega, HTN⟩
              case round =>
                obtain ⟨j, rfl, hj, HT2⟩ := hrel
                by_cases hlt2 : j < n
                · obtain ⟨p, y0, eA, q0, f0, hst⟩ := HT2.out.rk.cell hlt2
                  subst eA
                  have HST := Lib.hid hst
                  have hq2 := (HT2.out.ids.cell k).trans HCU.out
                  clear hst hq
                  go_wp2_with fail
                  refine ⟨⟨j + 1, by go_num, by omega, Lib.hid ?_⟩, by simp [intOf]; omega⟩
                  exact HT2.out.turn ((Mod.refl _ wr).store (p := ⟨p, j, none⟩) (.inl (by show p ∈ [p]; simp)) _) (HST.out _) (Nat.le_refl _) (.inl rfl)
                · have e6 : j = n := by omega
                  subst e6
                  go_wp2_with fail
                  refine ⟨⟨k + 2, by go_num, by omega, Lib.hid (HB1k.out _ _ _ HT2.out)⟩, by simp [intOf]; omega⟩
            · have e6 : k = 6 := by omega
              subst e6
              try rw [show ((6 : Nat) : Int) = 6 from rfl]
              clear hlt hk
              go_wp2_with fail
              go_loopw [16, 17] (fun kk _ wx => ∃ k : Nat, kk = .int .i64 (k : Int) ∧ (k = 0 ∨ k = 2 ∨ k = 4 ∨ k = 6) ∧ Hid (Wk w w13 wx T w11.heap.size (64 + 5 * k) (Value.slice A1 xo.length c1) (Value.slice A3 xu.length c3) (Value.slice A5 xc.length c5) (Value.slice Aa L.length ca))) (fun kk _ _ => 6 - (intOf kk).toNat)
              case atStart => exact ⟨0, rfl, .inl rfl, HW⟩
              case round =>
                obtain ⟨k, rfl, hk, HW⟩ := hrel
                by_cases hlt : k < 6
                ·
                  go_wp2_with fail
                  have hdk : decide ((k : Int) < 6) = true := decide_eq_true (by omega)
                  simp only [hdk]
                  go_loopw [17] (fun i wx => ∃ j : Nat, i = .int .i64 (j : Int) ∧ j ≤ 9 ∧ Hid (Wk w w13 wx T w11.heap.size (64 + 5 * k + j) (Value.slice A1 xo.length c1) (Value.slice A3 xu.length c3) (Value.slice A5 xc.length c5) (Value.slice Aa L.length ca))) (fun i _ => 9 - (intOf i).toNat)
                  case atStart => exact ⟨0, rfl, by omega, HW⟩
                  case round =>
                    obtain ⟨j, rfl, hj, HW2⟩ := hrel
                    by_cases hlt2 : j < 9
                    · obtain ⟨cs, u, o1, o2, hTn, hcu, _, hback⟩ := HW2.out.pick (k := k) (by omega)
                      have HB1k := Lib.hid hback
                      have HTN := Lib.hid hTn
                      have hq := (hTn.ids.cell k).trans hcu
                      have HCU := Lib.hid hcu
                      have hq' : (wr.alloc (.cells #[.int .i64 (-99)] 3)).cell? ⟨w11.heap.size, k, none⟩ = some u := ((hTn.ids.alloc _).cell k).trans hcu
                      have HTA := Lib.hid (hTn.on ((Below.refl _ wr).alloc (Nat.le_refl _) (.cells #[.int .i64 (-99)] 3)))
                      have HNW := Lib.hid (Whole.new wr 3 #[.int .i64 (-99)])
                      have HLOW := Lib.hid HTA.out.low
                      clear hback hTn hcu
                      go_wp2_with (at_builtin; refine app_num rfl (.tmp 114) (.tmp 115) rfl HTA.out.rk HNW.out (by omega) HLOW.out rfl rfl ?_; intro v2 w2 h1 h2 h3; have HT2 := Lib.hid (HTA.out.turn h2 h1 (Nat.le_succ _) h3); obtain ⟨Ah, nh, chh, e2, -, -, -⟩ := HT2.out.rk.shape; subst e2; have q2 := (HT2.out.ids.cell k).trans HCU.out; have f2 := HT2.out.ids.frozen k; clear h1 h2 h3)
                      go_roundw
                      case rel => exact ⟨j + 1, by go_num, by omega, Lib.hid (HB1k.out _ _ _ (HT2.out.head k _))⟩
                      case measure => simp [intOf]; omega
                    · have e6 : j = 9 := by omega
                      subst e6
                      try rw [show ((9 : Nat) : Int) = 9 from rfl]
                      go_wp2_with fail
                      refine ⟨⟨k + 2, by go_num, by omega, Lib.hid (HW2.out.more (by omega))⟩, by simp [intOf]; omega⟩
                · have e6 : k = 6 := by omega
                  subst e6
                  try rw [show ((6 : Nat) : Int) = 6 from rfl]
                  clear hlt hk
                  go_wp2_with fail
                  go_loopw [7, 18] (fun va i wx => ∃ j : Nat, i = .int .i64 (j : Int) ∧ j ≤ 9 ∧ Hid (Wk w w13 wx T w11.heap.size (94 + j) (Value.slice A1 xo.length c1) (Value.slice A3 xu.length c3) (Value.slice A5 xc.length c5) va)) (fun _ i _ => 9 - (intOf i).toNat)
                  case atStart => exact ⟨0, rfl, by omega, HW⟩
                  case round =>
                    obtain ⟨j, rfl, hj, HW2⟩ := hrel
                    by_cases hlt2 : j < 9
                    ·
                      have HTA := Lib.hid (HW2.out.on ((Below.refl _ wr).alloc (Nat.le_refl _) (.cells (four ⟨-8, ⟨#[]⟩, 0, 0⟩).toArray 25)))
                      have HNW := Lib.hid (Whole.new wr 25 (four ⟨-8, ⟨#[]⟩, 0, 0⟩).toArray)
                      have HLOW := Lib.hid HTA.out.low
                      go_wp2_with (at_builtin; refine app_ente rfl (.tmp 122) (.tmp 124) rfl HTA.out.ra HNW.out (by omega) HLOW.out rfl rfl ?_; intro v2 w2 h1 h2 h3; have HT2 := Lib.hid (HTA.out.turnA h2 h1 (Nat.le_succ _) h3); clear h1 h2 h3)
                      go_roundw
                      case rel => exact ⟨j + 1, by go_num, by omega, HT2⟩
                      case measure => simp [intOf]; omega
                    · have e6 : j = 9 := by omega
                      subst e6
                      try rw [show ((9 : Nat) : Int) = 9 from rfl]
                      clear hlt2 hj
                      obtain ⟨w20, e20⟩ : ∃ x, x = wr := ⟨_, rfl⟩
                      subst e20
                      obtain ⟨va2, ea2⟩ : ∃ x, x = u7 := ⟨_, rfl⟩
                      subst ea2
                      have HMO := Lib.hid HW2.out.mod
                      have HP20 := Lib.hid (HP13.out.apart HMO.out HPT.out)
                      have HRb2 := Lib.hid (HMO.out.own HRb.out HbT.out)
                      have HN1 := Lib.hid (show RN _ w20 _ _ from HMO.out.own HR1.out H1T.out)
                      have HN3 := Lib.hid (show RN _ w20 _ _ from HMO.out.own HR3.out H3T.out)
                      have HN5 := Lib.hid (show RN _ w20 _ _ from HMO.out.own HR5.out H5T.out)
                      obtain ⟨pk, ck, ek, hk1, hk2, hk3, hk4⟩ := (HK.out.mod HMO.out HKT.out).get (by omega)
                      subst ek
                      have HOD := Lib.hid HW2.out.odd
                      have HPK := Lib.hid hk4
                      have HLI := Lib.hid HW2.out.lt
                      have HLK := Lib.hid hk2
                      clear hk1 hk2 hk4
                      have HODD := Lib.hid (show ∀ k, k = 1 ∨ k = 3 ∨ k = 5 → ∃ A c B d, w20.cell? ⟨w11.heap.size, k, none⟩ = some (.slice A (X k).length c) ∧ w20.cell? ⟨pk, k, none⟩ = some (.slice B (X k).length d) ∧ IntsAt w20 A (X k) ∧ IntsAt w20 B (X k) ∧ (X k).length ≤ c ∧ (X k).length ≤ d ∧ c ≤ 9223372036854775807 ∧ d ≤ 9223372036854775807 from by
                        intro k hk
                        obtain ⟨B, d, j1, j2, j3, j4⟩ := HPK.out k (by omega)
                        obtain ⟨g1, g3, g5⟩ := HOD.out
                        rcases hk with rfl | rfl | rfl
                        · have ex : X 1 = xo := by rw [HXX.out]; rfl
                          rw [ex] at j1 j2 j3 ⊢
                          exact ⟨A1, c1, B, d, g1, j1, IntsAt.own HN1.out, IntsAt.own j2, h1_1, j3, h2_1, j4⟩
                        · have ex : X 3 = xu := by rw [HXX.out]; rfl
                          rw [ex] at j1 j2 j3 ⊢
                          exact ⟨A3, c3, B, d, g3, j1, IntsAt.own HN3.out, IntsAt.own j2, h1_3, j3, h2_3, j4⟩
                        · have ex : X 5 = xc := by rw [HXX.out]; rfl
                          rw [ex] at j1 j2 j3 ⊢
                          exact ⟨A5, c5, B, d, g5, j1, IntsAt.own HN5.out, IntsAt.own j2, h1_5, j3, h2_5, j4⟩)
                      clear HPK HOD HN1 HN3 HN5 HR1 HR3 HR5 HMO HP13 HRb H1T H3T H5T HbT HKT HPT HW2 HWK HW HHT HSW HK HB hk3
                      clear h1_0 h2_0 h1_2 h2_2 h1_4 h2_4
                      go_wp2_with fail
                      go_loopw [19] (fun kk wx => ∃ k : Nat, kk = .int .i64 (k : Int) ∧ (k = 1 ∨ k = 3 ∨ k = 5 ∨ k = 7) ∧ Hid (Below w20.heap.size w20 wx)) (fun kk _ => 7 - (intOf kk).toNat)
                      case atStart => exact ⟨1, rfl, .inl rfl, Lib.hid (Below.refl _ _)⟩
                      case round =>
                        obtain ⟨k, rfl, hk, HB⟩ := hrel
                        by_cases hlt : k < 6
                        · obtain ⟨Ak, ak, Bk, bk, g1, g2, i1, i2, l1, l2, m1, m2⟩ := HODD.out k (by omega)
                          have g1' : wr.cell? ⟨w11.heap.size, k, none⟩ = some (.slice Ak (X k).length ak) := ((Mod.of_below HB.out []).cell (p := ⟨w11.heap.size, k, none⟩) HLI.out (by simp)).trans g1
                          have g2' : wr.cell? ⟨pk, k, none⟩ = some (.slice Bk (X k).length bk) := ((Mod.of_below HB.out []).cell (p := ⟨pk, k, none⟩) HLK.out (by simp)).trans g2
                          have g1'' : wr.drew.cell? ⟨w11.heap.size, k, none⟩ = some (.slice Ak (X k).length ak) := g1'
                          have g2'' : wr.drew.cell? ⟨pk, k, none⟩ = some (.slice Bk (X k).length bk) := g2'
                          have HSI := Lib.hid (SameInts_any Ak Bk ak bk (X k) (X k) wr.drew (show IntsAt wr.drew Ak (X k) from IntsAt.below i1 (below_drewN HB.out 1)) (show IntsAt wr.drew Bk (X k) from IntsAt.below i2 (below_drewN HB.out 1)) l1 l2 m1 m2)
                          rw [decide_eq_true (rfl : X k = X k)] at HSI
                          clear g1 g2 i1 i2 l1 l2 m1 m2
                          go_wp2_with fail
                          go_cut [141] (fun s wx => s = .bool false ∧ Hid (Below w20.heap.size w20 wx))
                          case first =>
                            go_region_with (go_at_call 12; refine HSI.out.mono ?_; rintro e wS ⟨rfl, hbS⟩)
                            all_goals
                              go_wp2_with fail
                              go_meet
                              exact ⟨rfl, Lib.hid (below_on HB.out ((below_drewN (Below.refl _ _) 1).trans hbS))⟩
                          case rest =>
                            obtain ⟨rfl, HB⟩ := hcut
                            clear g1' g2' g1'' g2'' HSI
                            go_wp2_with fail
                            refine ⟨⟨k + 2, by go_num, by omega, HB⟩, by simp [intOf]; omega⟩
                        · have e6 : k = 7 := by omega
                          subst e6
                          try rw [show ((7 : Nat) : Int) = 7 from rfl]
                          clear hlt hk
                          obtain ⟨w21, e21⟩ : ∃ x, x = wr := ⟨_, rfl⟩
                          subst e21
                          have HP21 := Lib.hid (HP20.out.mid HB.out)
                          have HRb3 := Lib.hid ((Mod.of_below HB.out []).own HRb2.out (by simp))
                          have HX21 := Lib.hid (HX3.out _ HP21.out.below)
                          have HA21 := Lib.hid (HA.out.below (below_on HB1.out HP21.out.below))
                          have HZ21 := Lib.hid (Nat.le_trans HS311.out (Nat.le_trans (Nat.le_of_lt HLI.out) HB.out.size))
                          clear HODD HB HP20 HRb2 HLI HLK
                          go_wp2_with fail
                          refine (filled_any S w21 A c l w21 HX21.out HA21.out hl hc HF.out (Below.refl _ _)).mono ?_
                          rintro e w22 ⟨gw, rfl, HMw⟩
                          obtain ⟨Fw, hw1, hw2, hw3, _⟩ := HMw.out
                          rw [HFL.out] at hw1
                          have HP22 := Lib.hid (HP21.out.mid hw3)
                          have HRb4 := Lib.hid ((Mod.of_below hw3 []).own HRb3.out (by simp))
                          have HIw := Lib.hid hw1
                          have HFw := Lib.hid (show ∀ b ∈ Fw, b ∉ Fs from fun b hb hs => by have h1 := hw2 b hb; have h2 := HFs.out b hs; have h3 := HZ21.out; omega)
                          have HWX := Lib.hid (fun wx (hm : Mod Fs w22 wx) => HP22.out.below.trans (hm.below HP22.out.below.size HP22.out.ls))
                          clear hw1 hw2 hw3 HMw HP21 HRb3
                          unfold ptr
                          go_wp2_with fail
                          go_loopw [22, 146] (fun _ i wx => ∃ k : Nat, i = .int .i64 (k : Int) ∧ k ≤ l.length ∧ Hid (Dr S w22 wx gs Fs (dropsOn L (l.take k)))) (fun _ i _ => l.length - (intOf i).toNat)
                          case atStart => exact ⟨0, rfl, by omega, by rw [List.take_zero]; exact Lib.hid ⟨Fs, HP22.out.s, fun b hb => .inl hb, Mod.refl _ _⟩⟩
                          case round =>
                            obtain ⟨k, rfl, hk, HT⟩ := hrel
                            by_cases hlt : k < l.length
                            · obtain ⟨b, o, eA, hbl, hca⟩ := HA.out (by omega)
                              subst eA
                              obtain ⟨x0, x1, x2, x3⟩ := (hca k l[k] (List.getElem?_eq_getElem hlt)).below hbl (below_on HB1.out (HWX.out _ HT.out.mod))
                              have HS := Lib.hid (drops_step (L := L) hlt)
                              clear hca
                              generalize l[k] = x at x0 x1 x2 x3 HS
                              have HT2 := Lib.hid (HT.out.on (((Below.refl wr.heap.size wr).alloc (Nat.le_refl _) (Obj.cells (four x).toArray 25))))
                              go_wp2_with fail
                              refine (HT2.out.drop (HX3.out _ (HWX.out _ HT2.out.mod)) x.id).mono ?_
                              rintro y w3x ⟨bb, rfl, HD⟩
                              go_wp2_with fail
                              go_roundw
                              case rel => exact ⟨k + 1, by go_num, by omega, by rw [HS.out]; exact HD⟩
                              case measure => simp only [intOf]; omega
                            · have HE := Lib.hid (show l.take k = l from List.take_of_length_le (by omega))
                              obtain ⟨w30, e30⟩ : ∃ x, x = wr := ⟨_, rfl⟩
                              subst e30
                              have hdr0 := HT.out
                              rw [HE.out, ← HFL.out, drops_all] at hdr0
                              have hmo := hdr0.mod
                              have HQ0 := Lib.hid (show Qq S w22 w30 gw gt gs Fw Ft Fs L Ab from ⟨S.mod HIw.out hmo HFw.out, S.mod HP22.out.t hmo (fun b hb hs => HP22.out.far b hs hb), hdr0, EntsAt.own (hmo.own HRb4.out HbF.out)⟩)
                              have HBF := Lib.hid (show Below w.heap.size w w30 from below_on HB1.out (HWX.out _ hmo))
                              clear hmo hdr0 HT HE HIw HP22 HRb4 HFw HWX HbF
                              go_wp2_with fail
                              refine (S.list HQ0.out.1).mono ?_
                              rintro e w31 h
                              obtain ⟨Aw, cw, rfl, ho, hb, k1, k2⟩ := one_ent' h
                              have HQ1 := Lib.hid (HQ0.out.on hb)
                              have HB31 := Lib.hid (below_on HBF.out hb)
                              have HE1 := Lib.hid (EntsAt.own ho)
                              clear h ho hb HQ0 HBF
                              go_wp2_with fail
                              refine (Same_any Ab Aw cb cw L L w31 HQ1.out.2.2.2 HE1.out h1b k1 h2b k2).mono ?_
                              rintro e w32 ⟨rfl, hb⟩
                              rw [decide_eq_true (rfl : L = L)]
                              have HQ2 := Lib.hid (HQ1.out.on hb)
                              have HB32 := Lib.hid (below_on HB31.out hb)
                              clear hb HQ1 HB31 HE1
                              go_wp2_with fail
                              refine (S.list HQ2.out.2.1).mono ?_
                              rintro e w33 h
                              obtain ⟨At, ct, rfl, ho, hb, k3, k4⟩ := one_ent' h
                              have HQ3 := Lib.hid (HQ2.out.on hb)
                              have HB33 := Lib.hid (below_on HB32.out hb)
                              have HE3 := Lib.hid (EntsAt.own ho)
                              clear h ho hb HQ2 HB32
                              go_wp2_with fail
                              refine (S.list HQ3.out.1).mono ?_
                              rintro e w34 h
                              obtain ⟨Ax, cx, rfl, ho, hb, k5, k6⟩ := one_ent' h
                              have HQ4 := Lib.hid (HQ3.out.on hb)
                              have HB34 := Lib.hid (below_on HB33.out hb)
                              have HE4 := Lib.hid (HE3.out.below hb)
                              have HE5 := Lib.hid (EntsAt.own ho)
                              clear h ho hb HQ3 HB33 HE3
                              go_wp2_with fail
                              refine (Same_any At Ax ct cx L L w34 HE4.out HE5.out k3 k5 k4 k6).mono ?_
                              rintro e w35 ⟨rfl, hb⟩
                              rw [decide_eq_true (rfl : L = L)]
                              have HQ5 := Lib.hid (HQ4.out.on hb)
                              have HB35 := Lib.hid (below_on HB34.out hb)
                              clear hb HQ4 HB34 HE4 HE5
                              go_wp2_with fail
                              refine (HQ5.out.2.2.1.len).mono ?_
                              rintro e w36 ⟨rfl, hb⟩
                              have HQ6 := Lib.hid (HQ5.out.on hb)
                              have HB36 := Lib.hid (below_on HB35.out hb)
                              clear hb HQ5 HB35
                              go_wp2_with fail
                              refine (HQ6.out.2.2.1.list).mono ?_
                              rintro e w37 h
                              obtain ⟨Ay, cy, rfl, ho, hb, k7, k8⟩ := one_ent' h
                              have HB37 := Lib.hid (below_on HB36.out hb)
                              clear h ho hb HQ6 HB36
                              go_wp2_with fail
                              go_ret
                              exact ⟨rfl, HB37.out⟩
end Go.Proofs.YtpfljooceppcbaaDoor.ahead
