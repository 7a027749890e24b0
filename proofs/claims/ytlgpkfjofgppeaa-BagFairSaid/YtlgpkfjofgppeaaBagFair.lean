/- A doubled packet is there twice, and looking changes nothing; for every list of packets and every place. -/
import Derived.Test.YtlgpkfjofgppeaaRows
import Derived.Test.YtlgpkfjofgppeaaBagW11
import Derived.Test.YtlgpkfjofgppeaaLaw
import Derived.JoinedCond
import Derived.OpenShut
namespace Go.Proofs.Ytlgpkfjofgppeaa.lawBagFair
open Go Go.RowKit Go.ChangeShapes Go.WideShapes Go.ChangeAt
set_option linter.unusedVariables false
set_option linter.unusedSimpArgs false
open By (BytesAt)
theorem RefSame_raw (p : Pk) (A A' : Option Addr) (c c' : Nat) (w : World) (hA : BytesAt w A p.d) (hB : BytesAt w A' p.d) :
    Calls Try.prog 39 #[.agg #[.int .i64 p.frm, .int .i64 p.dst, .slice A p.d.length c], .agg #[.int .i64 p.frm, .int .i64 p.dst, .slice A' p.d.length c']] w fun e w' => e = .returned (.bool true) ∧ Below w.heap.size w w' := RefSame_self p A A' c c' w hA hB
/-- The cells that the last questions read. -/
def Nine (bl bp bw ow k : Nat) (p : Pk) (AL AP AW : Option Addr) (cL cP cW : Nat) (v : World) : Prop := v.cell? ⟨bl, 0, none⟩ = some (.int .i64 p.frm) ∧ v.cell? ⟨bl, 1, none⟩ = some (.int .i64 p.dst) ∧ v.cell? ⟨bl, 2, none⟩ = some (.slice AL p.d.length cL) ∧ v.cell? ⟨bp, 0, none⟩ = some (.int .i64 p.frm) ∧ v.cell? ⟨bp, 1, none⟩ = some (.int .i64 p.dst) ∧ v.cell? ⟨bp, 2, none⟩ = some (.slice AP p.d.length cP) ∧ v.cell? ⟨bw, ow + k * 3, none⟩ = some (.int .i64 p.frm) ∧ v.cell? ⟨bw, ow + k * 3 + 1, none⟩ = some (.int .i64 p.dst) ∧ v.cell? ⟨bw, ow + k * 3 + 2, none⟩ = some (.slice AW p.d.length cW)
theorem Nine.below {bl bp bw ow k : Nat} {p : Pk} {AL AP AW : Option Addr} {cL cP cW : Nat} {v v' : World} (h : Nine bl bp bw ow k p AL AP AW cL cP cW v) (hl : bl < v.heap.size ∧ bp < v.heap.size ∧ bw < v.heap.size) (hb : Below v.heap.size v v') : Nine bl bp bw ow k p AL AP AW cL cP cW v' := by
  obtain ⟨h0, h1, h2, h3, h4, h5, h6, h7, h8⟩ := h
  obtain ⟨l1, l2, l3⟩ := hl
  have hm := Mod.of_below hb []
  exact ⟨(hm.cell (p := ⟨bl, _, none⟩) l1 (by simp)).trans h0, (hm.cell (p := ⟨bl, _, none⟩) l1 (by simp)).trans h1, (hm.cell (p := ⟨bl, _, none⟩) l1 (by simp)).trans h2, (hm.cell (p := ⟨bp, _, none⟩) l2 (by simp)).trans h3, (hm.cell (p := ⟨bp, _, none⟩) l2 (by simp)).trans h4, (hm.cell (p := ⟨bp, _, none⟩) l2 (by simp)).trans h5, (hm.cell (p := ⟨bw, _, none⟩) l3 (by simp)).trans h6, (hm.cell (p := ⟨bw, _, none⟩) l3 (by simp)).trans h7, (hm.cell (p := ⟨bw, _, none⟩) l3 (by simp)).trans h8⟩
theorem lt3 {a b c : Nat} {v v' : World} (h : a < v.heap.size ∧ b < v.heap.size ∧ c < v.heap.size) (hb : Below v.heap.size v v') : a < v'.heap.size ∧ b < v'.heap.size ∧ c < v'.heap.size := by
  have := hb.size
  omega
set_option maxRecDepth 100000 in
set_option maxHeartbeats 16000000 in
theorem walk (A : Option Addr) (c : Nat) (l : List Pk) (k0 : Int) (w : World) (hP : PksAt (fun x => x < w.heap.size) w A l) (hc : l.length ≤ c) (hm : c * 40 ≤ 140737488351232) (hl : ∀ p ∈ l, p.d.length ≤ 140737488351232) (hr : -9223372036854775808 ≤ k0 ∧ k0 ≤ 9223372036854775807) :
    Calls Try.prog 14 #[.slice A l.length c, .int .i64 k0] w (LK.True_ w) := by
  have HP := Lib.hid hP
  have HL := Lib.hid hl
  clear hP hl
  go_enter Try.func14, Try.ntmps14
  go_wp2_with fail
  refine (awake_any w).mono ?_
  rintro e w1 ⟨rfl, hb⟩
  have HX1 := Lib.hid hb
  clear hb
  go_wp2_with fail
  refine (New_any w1).mono ?_
  rintro e w2 ⟨rfl, hw2⟩
  have HX2 := Lib.hid (show Below w.heap.size w w2 by rw [hw2]; exact below_on HX1.out ((Below.refl _ w1).alloc (Nat.le_refl _) _))
  have HB2 := Lib.hid (show BagAt (fun x => x ≠ w1.heap.size) w2 w1.heap.size [] 0 0 by rw [hw2]; exact bag0_at w1 (fun h => h rfl))
  have HG := Lib.hid HX1.out.size
  clear hw2
  go_wp2_with fail
  go_loopw [20] (fun i wx => ∃ (j : Nat) (b : Bg), i = .int .i64 (j : Int) ∧ j ≤ l.length ∧ Sound b j ∧ BagAt (fun x => x ≠ w1.heap.size) wx w1.heap.size b.ps b.s b.q ∧ Below w.heap.size w wx) (fun i _ => l.length - (intOf i).toNat)
  case atStart => exact ⟨0, ⟨[], 0, 0⟩, rfl, by omega, sound0 0, HB2.out, HX2.out⟩
  case round =>
    obtain ⟨j, b, rfl, hj, hS, hB, hX⟩ := hrel
    have HS := Lib.hid hS
    have HB := Lib.hid hB
    have HX := Lib.hid hX
    clear hS hB hX
    by_cases hlt : j < l.length
    · have HPK := Lib.hid (List.getElem?_eq_getElem hlt)
      have HPL := Lib.hid (HL.out l[j] (List.getElem_mem hlt))
      generalize l[j] = p at HPK HPL
      obtain ⟨b1, o1, A1, c1, e1, a0, a1, a2, hd⟩ := (HP.out.mod (Mod.of_below HX.out []) (by simp)).get HPK.out
      subst e1
      have HA4 := Lib.hid ((Below.refl _ wr).alloc (Nat.le_refl _) (.cells #[.int .i64 p.frm, .int .i64 p.dst, .slice A1 p.d.length c1] 50))
      have HD4 := Lib.hid (hd.bytes.below HA4.out)
      have HB4 := Lib.hid (HB.out.below HA4.out)
      have HX4 := Lib.hid (below_on HX.out HA4.out)
      clear hd
      go_wp2_with fail
      clear a0 a1 a2
      generalize wr.alloc (.cells #[.int .i64 p.frm, .int .i64 p.dst, .slice A1 p.d.length c1] 50) = w4 at HA4 HD4 HB4 HX4 ⊢
      refine (lawOwn_any p A1 c1 w4 HD4.out (by have := HPL.out; omega)).mono ?_
      rintro e w5 ⟨A5, c5, rfl, ho, hb⟩
      have HB5 := Lib.hid (HB4.out.below hb)
      have HX5 := Lib.hid (below_on HX4.out hb)
      have HD5 := Lib.hid (By.BytesAt.own ho.out)
      clear ho hb HA4 HD4 HB4 HX4
      go_wp2_with fail
      refine (Send_any HB5.out HS.out (by omega) p A5 c5 HD5.out (fun x hx => by have := HB5.out.lt; show x ≠ _; omega)).mono ?_
      rintro e w6 ⟨rfl, hB6, hm6⟩
      have HX6 := Lib.hid (mod_on HX5.out hm6.out HG.out)
      clear hm6
      go_wp2_with fail
      go_roundw
      case rel => exact ⟨j + 1, sent b p, rfl, hlt, HS.out.sent p, hB6.out, HX6.out⟩
      case measure => simp only [intOf]; omega
    · obtain rfl : j = l.length := by omega
      have HSH := Lib.hid (fun p hp => Nat.le_trans (HS.out.short p hp) (by decide : 200 ≤ 140737488355328))
      have H48 := Lib.hid HS.out.le
      have HGR := Lib.hid HB.out.lt
      go_wp2_with fail
      refine (List_any HB.out HSH.out).mono ?_
      rintro e w5 ⟨B5, rfl, hp5, hb5⟩
      have HW5 := Lib.hid hp5.out
      have HB5 := Lib.hid (HB.out.below hb5.out)
      have HX5 := Lib.hid (below_on HX.out hb5.out)
      clear hp5 hb5 HB HX
      go_wp2_with fail
      by_cases hk : k0 < 0 ∨ (b.ps.length : Int) ≤ k0
      · refine (Look_no HB5.out hk).mono ?_
        rintro e w6 ⟨rfl, hb⟩
        unfold zero3
        have HA7 := Lib.hid (hb.trans ((Below.refl _ w6).alloc hb.size (.cells #[Value.int .i64 0, Value.int .i64 0, Value.slice none 0 0] 50)))
        have HK := Lib.hid hk
        clear hb
        go_wp2_with fail
        generalize w6.alloc (.cells #[Value.int .i64 0, Value.int .i64 0, Value.slice none 0 0] 50) = w7 at HA7 ⊢
        have HW7 := Lib.hid ((HW5.out.at (S := fun _ => True) (fun _ _ _ => trivial)).below HA7.out)
        have HB7 := Lib.hid (HB5.out.below HA7.out)
        have HX7 := Lib.hid (below_on HX5.out HA7.out)
        clear HW5 HB5 HX5 HA7
        refine (Double_gone HB7.out HK.out).mono ?_
        rintro e w8 ⟨rfl, rfl⟩
        go_wp2_with fail
        refine (List_any HB7.out HSH.out).mono ?_
        rintro e w8 ⟨B8, rfl, hp8, hb8⟩
        have HN8 := Lib.hid (hp8.out.at (S := fun _ => True) (fun _ _ _ => trivial))
        have HW8 := Lib.hid (HW7.out.below hb8.out)
        have HX8 := Lib.hid (below_on HX7.out hb8.out)
        clear hp8 hb8 HW7 HB7 HX7 hk
        have H48c := Lib.hid (show b.ps.length ≤ 9223372036854775807 by have := H48.out; omega)
        by_cases hn : k0 < 0
        · have hd1 : decide ((0 : Int) ≤ k0) = false := by simp; omega
          clear hn
          go_wp2_with fail
          refine (RefSameAll_self HW8.out HN8.out _ _ H48c.out).mono ?_
          rintro e w10 ⟨rfl, hb⟩
          have HX10 := Lib.hid (below_on HX8.out hb)
          clear hb
          go_wp2_with fail
          go_ret
          exact ⟨rfl, HX10.out⟩
        · have hd1 : decide ((0 : Int) ≤ k0) = true := by simp; omega
          have hd2 : decide (k0 < (b.ps.length : Int)) = false := by have := HK.out; simp; omega
          clear hn
          go_wp2_with fail
          refine (RefSameAll_self HW8.out HN8.out _ _ H48c.out).mono ?_
          rintro e w10 ⟨rfl, hb⟩
          have HX10 := Lib.hid (below_on HX8.out hb)
          clear hb
          go_wp2_with fail
          go_ret
          exact ⟨rfl, HX10.out⟩
      · obtain ⟨k, rfl⟩ : ∃ k : Nat, k0 = (k : Int) := ⟨k0.toNat, by omega⟩
        have hlt2 : k < b.ps.length := by omega
        have HPK := Lib.hid (List.getElem?_eq_getElem hlt2)
        generalize b.ps[k] = p at HPK
        have HPL := Lib.hid (HSH.out p (List.mem_of_getElem? HPK.out))
        clear hk
        refine (Look_yes HB5.out HPK.out HPL.out).mono ?_
        rintro e w6 ⟨AP, cP, rfl, hd, hb⟩
        have HA7 := Lib.hid (hb.out.trans ((Below.refl _ w6).alloc hb.out.size (.cells #[.int .i64 p.frm, .int .i64 p.dst, .slice AP p.d.length cP] 50)))
        have HQ7 := Lib.hid (Whole.new w6 50 #[.int .i64 p.frm, .int .i64 p.dst, .slice AP p.d.length cP])
        have HGL := Lib.hid (show w1.heap.size < w6.heap.size by have h1 := HB5.out.lt; have h2 := hb.out.size; omega)
        have HD7 := Lib.hid ((hd.out.mono (S' := fun x => x ≠ w1.heap.size) (fun x _ hx => by have := HB5.out.lt; show x ≠ _; omega)).below ((Below.refl _ w6).alloc (Nat.le_refl _) (.cells #[.int .i64 p.frm, .int .i64 p.dst, .slice AP p.d.length cP] 50)))
        clear hd hb
        unfold three
        go_wp2_with fail
        generalize w6.alloc (.cells #[.int .i64 p.frm, .int .i64 p.dst, .slice AP p.d.length cP] 50) = w7 at HA7 HQ7 HD7 ⊢
        have HW7 := Lib.hid ((HW5.out.at (S := fun x => x ≠ w1.heap.size) (fun x hx _ => by have := HB5.out.lt; have := HGR.out; show x ≠ _; omega)).below HA7.out)
        have HB7 := Lib.hid (HB5.out.below HA7.out)
        have HX7 := Lib.hid (below_on HX5.out HA7.out)
        clear HB5 HX5 HA7
        have hd1 : decide ((0 : Int) ≤ (k : Int)) = true := by simp
        have hd2 : decide ((k : Int) < (b.ps.length : Int)) = true := by simp; omega
        have hd2b : decide (k < b.ps.length) = true := by simp; omega
        by_cases h48 : b.ps.length = 48
        · have hd3 : decide ((b.ps.length : Int) < 48) = false := by simp; omega
          have hd3b : decide (b.ps.length < 48) = false := by simp; omega
          have H48b := Lib.hid h48
          clear h48
          refine (Double_full HB7.out HPK.out H48b.out).mono ?_
          rintro e w8 ⟨rfl, hb⟩
          have HW8 := Lib.hid (HW7.out.below hb)
          have HB8 := Lib.hid (HB7.out.below hb)
          have HX8 := Lib.hid (below_on HX7.out hb)
          clear hb HW7 HB7 HX7
          go_wp2_with fail
          refine (List_any HB8.out HSH.out).mono ?_
          rintro e w9 ⟨B9, rfl, hp9, hb9⟩
          have HN9 := Lib.hid (hp9.out.at (S := fun _ => True) (fun _ _ _ => trivial))
          have HW9 := Lib.hid (HW8.out.below hb9.out)
          have HX9 := Lib.hid (below_on HX8.out hb9.out)
          clear hp9 hb9 HW8 HB8 HX8
          go_wp2_with fail
          refine (RefSameAll_self HW9.out HN9.out _ _ (by have := H48.out; omega)).mono ?_
          rintro e w10 ⟨rfl, hb⟩
          have HX10 := Lib.hid (below_on HX9.out hb)
          clear hb
          go_wp2_with fail
          go_ret
          exact ⟨rfl, HX10.out⟩
        · have hd3 : decide ((b.ps.length : Int) < 48) = true := by have := H48.out; simp; omega
          have hd3b : decide (b.ps.length < 48) = true := by have := H48.out; simp; omega
          have hw : IntKind.i64.wrap ((b.ps.length : Int) + 1) = (b.ps.length : Int) + 1 := IntWalk.i64_in _ (by have := H48.out; omega)
          have hle1 : (b.ps.length : Int) ≤ (b.ps.length : Int) + 1 := by omega
          have HLL := Lib.hid (show (b.ps ++ [p]).length = b.ps.length + 1 by simp)
          have HSH2 : Hid (∀ r ∈ b.ps ++ [p], r.d.length ≤ 140737488355328) := Lib.hid (fun r hr => by
            rcases List.mem_append.1 hr with hr | hr
            · exact HSH.out r hr
            · rw [List.mem_singleton.1 hr]; exact HPL.out)
          have HGW := Lib.hid (show w1.heap.size ≠ w6.heap.size by have := HB7.out.lt; have h2 := HQ7.out.lt; intro e; have h3 := HGR.out; have h4 := HGL.out; omega)
          refine (Double_ok HB7.out HPK.out (by have := H48.out; omega) HPL.out (fun x hx => by have := HB7.out.lt; show x ≠ _; omega)).mono ?_
          rintro e w8 ⟨rfl, hB8, hm8⟩
          have HB8 := Lib.hid hB8.out
          have HW8 := Lib.hid (HW7.out.mod hm8.out (by intro x hx; rw [List.mem_singleton.1 hx]; exact fun h => h rfl))
          have HQ8 := Lib.hid (hm8.out.whole HQ7.out (by have := HGW.out; simp; omega))
          have HD8 := Lib.hid (HD7.out.mod hm8.out (by intro x hx; rw [List.mem_singleton.1 hx]; exact fun h => h rfl))
          have HX8 := Lib.hid (mod_on HX7.out hm8.out HG.out)
          clear hB8 hm8 HW7 HB7 HX7 HQ7 HD7
          go_wp2_with fail
          refine (List_any HB8.out HSH2.out).mono ?_
          rintro e w9 ⟨B9, rfl, hp9, hb9⟩
          have HN9 := Lib.hid (hp9.out.at (S := fun _ => True) (fun _ _ _ => trivial)).front
          have HB9 := Lib.hid (HB8.out.below hb9.out)
          have HW9 := Lib.hid (HW8.out.below hb9.out)
          have HQ9 := Lib.hid ((Mod.of_below hb9.out []).whole HQ8.out (by simp))
          have HD9 := Lib.hid (HD8.out.below hb9.out)
          have HX9 := Lib.hid (below_on HX8.out hb9.out)
          clear hp9 hb9 HW8 HB8 HX8 HQ8 HD8
          rw [HLL.out]
          go_wp2_with fail
          refine (Look_yes HB9.out (k := b.ps.length) (p := p) (by simp) HPL.out).mono ?_
          rintro e w10 ⟨AL, cL, rfl, hd, hb⟩
          have hal := (Below.refl _ w10).alloc (Nat.le_refl _) (.cells #[.int .i64 p.frm, .int .i64 p.dst, .slice AL p.d.length cL] 50)
          have hal2 := below_on hb.out hal
          have HL11 := Lib.hid (Whole.new w10 50 #[.int .i64 p.frm, .int .i64 p.dst, .slice AL p.d.length cL])
          have HDL0 := Lib.hid (hd.out.bytes.below hal)
          have HN11 := Lib.hid (HN9.out.below hal2)
          have HW11 := Lib.hid (HW9.out.below hal2)
          have HQ11 := Lib.hid ((Mod.of_below hal2 []).whole HQ9.out (by simp))
          have HD11 := Lib.hid (HD9.out.below hal2)
          have HX11 := Lib.hid (below_on HX9.out hal2)
          clear hd hb hal hal2 HN9 HW9 HQ9 HD9 HX9 HB9
          unfold three
          go_upto_region 18 with (fail)
          generalize w10.alloc (.cells #[.int .i64 p.frm, .int .i64 p.dst, .slice AL p.d.length cL] 50) = w11 at HL11 HDL0 HN11 HW11 HQ11 HD11 HX11 ⊢
          obtain ⟨bw, ow, AW, cW, eW, k0', k1', k2', hdW⟩ := HW11.out.get HPK.out
          subst eW
          have HNI := Lib.hid (show Nine w10.heap.size w6.heap.size bw ow k p AL AP AW cL cP cW w11.drew from ⟨HL11.out.cell 0, HL11.out.cell 1, HL11.out.cell 2, HQ11.out.cell 0, HQ11.out.cell 1, HQ11.out.cell 2, k0', k1', k2'⟩)
          have HLT := Lib.hid (show w10.heap.size < w11.drew.heap.size ∧ w6.heap.size < w11.drew.heap.size ∧ bw < w11.drew.heap.size from ⟨HL11.out.lt, HQ11.out.lt, (h1lt HW11.out HPK.out : bw < w11.heap.size)⟩)
          have hdr := (Below.refl w11.heap.size w11).drew
          have HDL := Lib.hid (show BytesAt w11.drew AL p.d from HDL0.out.below hdr)
          have HDP := Lib.hid (show BytesAt w11.drew AP p.d from HD11.out.bytes.below hdr)
          have HDW := Lib.hid (show BytesAt w11.drew AW p.d from hdW.bytes.below hdr)
          have HWW := Lib.hid (show PksAt (fun x => x ≠ w1.heap.size) w11.drew (some ⟨bw, ow, none⟩) b.ps from HW11.out.below hdr)
          have HNN := Lib.hid (show PksAt (fun _ => True) w11.drew B9 b.ps from HN11.out.below hdr)
          have HXX := Lib.hid (show Below w.heap.size w w11.drew from HX11.out.drew)
          have HS9 := HNI.out
          unfold Nine at HS9
          clear hdr hdW k0' k1' k2' HL11 HDL0 HN11 HW11 HQ11 HD11 HX11
          go_region_held3 (fun v : World => v.cell? ⟨w10.heap.size, 0, none⟩ = some (.int .i64 p.frm) ∧ v.cell? ⟨w10.heap.size, 1, none⟩ = some (.int .i64 p.dst) ∧ v.cell? ⟨w10.heap.size, 2, none⟩ = some (.slice AL p.d.length cL) ∧ v.cell? ⟨w6.heap.size, 0, none⟩ = some (.int .i64 p.frm) ∧ v.cell? ⟨w6.heap.size, 1, none⟩ = some (.int .i64 p.dst) ∧ v.cell? ⟨w6.heap.size, 2, none⟩ = some (.slice AP p.d.length cP) ∧ v.cell? ⟨bw, ow + k * 3, none⟩ = some (.int .i64 p.frm) ∧ v.cell? ⟨bw, ow + k * 3 + 1, none⟩ = some (.int .i64 p.dst) ∧ v.cell? ⟨bw, ow + k * 3 + 2, none⟩ = some (.slice AW p.d.length cW))
            (first
              | exact HS9
              | (go_keep; done))
            (first
              | (go_at_call 39; with_reducible refine (RefSame_raw p AL AP cL cP _ HDL.out HDP.out).mono ?_; rintro x v ⟨rfl, hb⟩; replace HNI := Lib.hid (HNI.out.below HLT.out hb); replace HLT := Lib.hid (lt3 HLT.out hb); replace HDL := Lib.hid (HDL.out.below hb); replace HDP := Lib.hid (HDP.out.below hb); replace HDW := Lib.hid (HDW.out.below hb); replace HWW := Lib.hid (HWW.out.below hb); replace HNN := Lib.hid (HNN.out.below hb); replace HXX := Lib.hid (below_on HXX.out hb); replace HS9 := HNI.out; unfold Nine at HS9; clear hb)
              | (go_at_call 39; with_reducible refine (RefSame_raw p AW AP cW cP _ HDW.out HDP.out).mono ?_; rintro x v ⟨rfl, hb⟩; replace HNI := Lib.hid (HNI.out.below HLT.out hb); replace HLT := Lib.hid (lt3 HLT.out hb); replace HDL := Lib.hid (HDL.out.below hb); replace HDP := Lib.hid (HDP.out.below hb); replace HDW := Lib.hid (HDW.out.below hb); replace HWW := Lib.hid (HWW.out.below hb); replace HNN := Lib.hid (HNN.out.below hb); replace HXX := Lib.hid (below_on HXX.out hb); replace HS9 := HNI.out; unfold Nine at HS9; clear hb)
              | (go_at_call 41; refine (RefSameAll_self HNN.out HWW.out _ _ (by have := H48.out; omega)).mono ?_; rintro x v ⟨rfl, hb⟩; replace HNI := Lib.hid (HNI.out.below HLT.out hb); replace HLT := Lib.hid (lt3 HLT.out hb); replace HDL := Lib.hid (HDL.out.below hb); replace HDP := Lib.hid (HDP.out.below hb); replace HDW := Lib.hid (HDW.out.below hb); replace HWW := Lib.hid (HWW.out.below hb); replace HNN := Lib.hid (HNN.out.below hb); replace HXX := Lib.hid (below_on HXX.out hb); replace HS9 := HNI.out; unfold Nine at HS9; clear hb))
          all_goals
            go_wp2_with fail
            go_ret
            exact ⟨rfl, HXX.out⟩

theorem own : ownKnob Try.prog.godebug = none := by kernel_rfl
theorem laidOut : laidOutB Try.prog = true := by kernel_rfl
set_option maxRecDepth 100000 in
theorem lifted (os : Os) (started : os.Started) (H : Type) (enc : TypeId × Value → H) :
    ReturnsInHanded {} Try.checked os 14 .any (Rows.bagFairSpec.pre6 enc Try.prog Try.f14 [] false) (Rows.bagFairSpec.post enc Try.prog Try.f14 false true false false) := by
  refine LK.lifted_bare (C := Try.checked) (tb := 4) own started (by kernel_rfl) Try.func14 laidOut rfl (by kernel_rfl) (by kernel_rfl) Try.underlying4
    (fun ds h => by
      match ds, h with
      | [_, _], _ => rfl)
    (ChangeSpec.witness6 (enc := enc) (C := Try.checked) false ⟨#[], #[.slice none 0 0, .int .i64 0], []⟩ 8 (by kernel_rfl) (by kernel_rfl) (by kernel_rfl) (by kernel_rfl)) ?_
  intro W base args ds ps hval hA hwt _
  rw [show Try.f14.params.toList = [56, 3] by kernel_rfl] at hA hwt
  have hval' : ∀ (j : Nat) t v, (#[56, 3] : Array TypeId)[j]? = some t → args[j]? = some v → Value.okWide Try.prog W .any base t v := by
    rw [← Try.params14]; exact hval
  clear hval
  obtain ⟨v0, v1, d0, d1, pl0, pl1, rfl, rfl, rfl, h0, h1⟩ := trodAll_two hA
  obtain ⟨A0, c0, ps0, rfl, hP0, hc0, hm0, hl0⟩ := open_packets (hval' 0 56 v0 rfl rfl) h0 hwt (j := 0) rfl rfl
  obtain ⟨n1, rfl, rfl, rfl, hn1⟩ := open_int Try.underlying3 (hval' 1 3 v1 rfl rfl) h1
  have hr1 : -9223372036854775808 ≤ n1 ∧ n1 ≤ 9223372036854775807 := by simpa [Lit.wf, IntKind.min, IntKind.max, IntKind.signed, IntKind.bits] using hn1
  exact walk A0 c0 ps0 n1 W hP0 hc0 hm0 hl0 hr1

/-- The statement. -/
theorem proved : Rows.BagFairSaid :=
  OpenClaim.holds_of_wide 14 Try.f14 rfl rfl rfl rfl rfl rfl rfl ⟨rfl, rfl, rfl, rfl, rfl⟩ rfl rfl rfl rfl rfl (by kernel_rfl) Try.func14 (by kernel_rfl)
    (of_decide_eq_true (by kernel_rfl)) (by unfold Func.isWrapper; first | (rw [if_pos (by decide +kernel)]; kernel_rfl) | (rw [if_neg (by decide +kernel)]; exact ⟨rfl, rfl⟩))
    (fun os started H enc _ => lifted os started H enc)

end Go.Proofs.Ytlgpkfjofgppeaa.lawBagFair
