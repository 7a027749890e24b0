/- The document's Scan. -/
import Derived.Test.YtlnahmgcjaodkaaScW9
namespace Go.Proofs.Ytlnahmgcjaodkaa
open Go.RowKit
open By
set_option linter.unusedVariables false
set_option linter.unusedSimpArgs false
set_option maxRecDepth 100000
set_option maxHeartbeats 4000000 in
theorem RefScan_some (b o : Nat) (n c : Nat) (ss : List (List UInt8)) (g : Int) (w : World) (hA : RowsAt w (some ⟨b, o, none⟩) ss) (hn : ss.length = n) (hnc : n ≤ c ∧ c ≤ 9223372036854775807) (hnb : n ≤ 5864062014805) :
    Calls Try.prog 20 #[.slice (some ⟨b, o, none⟩) n c, .int .i64 g] w (ScanPost w ss g) := by
  have HA := Lib.hid hA
  have HN := Lib.hid hn
  obtain ⟨hnc1, hnc2⟩ := hnc
  clear hA hn
  go_enter Try.func20, Try.ntmps20
  go_wp2_with fail
  go_loopw [6, 7] (fun v i wr => ∃ (rs : List (List UInt8)) (u : Nat), i = .int .i64 (u : Int) ∧ Hid (Pre g ss rs u) ∧ Hid (Lst w.heap.size rs v wr) ∧ Hid (Below w.heap.size w wr)) (fun _ i _ => n - (intOf i).toNat)
  case atStart => exact ⟨[], 0, rfl, Lib.hid (Pre.nil g ss), Lib.hid (Lst.nil w _), Lib.hid (Below.refl _ w)⟩
  case round =>
    obtain ⟨rs, u, rfl, HP, HL, HB⟩ := hrel
    have hun : u ≤ n := by have := HP.out.1; have := HN.out; omega
    have hrs : rs.length ≤ u := HP.out.2.1
    obtain ⟨hs, h1, h2⟩ := HL.out.ex
    obtain ⟨A4, c4, rfl, hc4, hc5⟩ := own_shape h1
    have H1 := Lib.hid h1
    have H2 := Lib.hid h2
    clear h1 h2
    have hrw : w.heap.size ≤ wr.heap.size := HB.out.size
    have HRA := Lib.hid (HA.out.below HB.out)
    have HKL := Lib.hid (show (ss.drop u).length = n - u by rw [List.length_drop, HN.out])
    have HREC := Lib.hid (show ∀ (A : Option Addr) (c' : Nat), RowsAt wr A (ss.drop u) → n - u ≤ c' → c' ≤ c → Calls Try.prog 34 #[.slice A (n - u) c', .int .i64 g, .int .i64 (rs.length : Int)] wr (OnePost wr (ss.drop u) g (rs.length : Int)) from
      fun A c' h k1 k2 => one_any A (n - u) c' (ss.drop u) g (rs.length : Int) wr h HKL.out ⟨k1, by omega⟩)
    have HNIL : n - u = 0 → ∀ A, RowsAt wr A (ss.drop u) := fun h A h0 => absurd h0 (by rw [HKL.out]; omega)
    have HNIL' := Lib.hid HNIL
    clear HNIL
    go_wp2_with fail
    case inl =>
      go_at_call 34
      with_reducible refine (HREC.out (some ⟨b, o, none⟩) 0 (HNIL'.out (by omega) _) (by omega) (by omega)).mono ?_
      rintro e w5 ⟨HB5, ⟨d, m, v5, HR5, rfl, HO5⟩ | ⟨HN5, rfl⟩⟩
      · exfalso
        have h1 := (HP.out.more HR5.out).2
        have := HN.out
        omega
      · have HSC := Lib.hid (HP.out.stop HN5.out)
        have HLF := Lib.hid (HL.out.below HB5.out)
        have HBF := Lib.hid (below_on2 HB.out (.inl hrw) HB5.out)
        go_wp2_with fail
        go_ret2
        exact ⟨rs, u, _, rfl, HSC, HLF, HBF⟩
    case inr =>
      go_at_call 34
      with_reducible refine (HREC.out (some ⟨b, o + u, none⟩) (c - u) (rowsAt_cut HRA.out u) (by omega) (by omega)).mono ?_
      rintro e w5 ⟨HB5, ⟨d, m, v5, HR5, rfl, HO5⟩ | ⟨HN5, rfl⟩⟩
      · have HPM := Lib.hid (HP.out.more HR5.out)
        have hm1 : 1 ≤ m := HPM.out.2.1
        have hum : u + m ≤ n := by have := HPM.out.2.2.1; have := HN.out; omega
        have HM1 := Lib.hid ((Mod.of_below HB5.out []).alloc (.cells #[v5] 26))
        have HOW := Lib.hid (HM1.out.own H1.out (by simp))
        have h51 : w.heap.size ≤ w5.heap.size := Nat.le_trans hrw HB5.out.size
        have HOV := Lib.hid (((Mod.refl [] w5).alloc (.cells #[v5] 26)).own (own_base (b := w.heap.size) HO5.out hrw) (by simp))
        obtain ⟨A5, c5, rfl, _, _⟩ := own_shape HO5.out
        have HLL := Lib.hid (show (rs.length + 1) * 24 ≤ 140737488355328 by have := HPM.out.2.2.2; have := HN.out; omega)
        have HW5 := Lib.hid (Whole.new w5 26 #[Value.slice A5 d.length c5])
        have HSZ := Lib.hid (show w.heap.size ≤ (w5.alloc (.cells #[Value.slice A5 d.length c5] 26)).heap.size by simp; omega)
        go_wp2_with (at_builtin; refine list_app_hdr rfl (.tmp 26) (.tmp 28) rfl w.heap.size (.slice A4 rs.length c4) rs.length hs HOW.out w5.heap.size (.slice A5 d.length c5) rfl HW5.out HLL.out HSZ.out rfl rfl ?_; intro v6 w6 k1 k2; have K1 := Lib.hid k1; have K2 := Lib.hid k2; clear k1 k2)
        have HLF := Lib.hid (Lst.push (base := w.heap.size) hrw H1.out H2.out HM1.out HOV.out K1.out K2.out)
        have HBF := Lib.hid (HB.out.trans (((HM1.out.mono (G := (Value.slice A4 rs.length c4).ownBlock.toList) (by simp)).trans K2.out (fun x hx => .inl hx)).below hrw (fun x hx => (H1.out.lt x (by simpa using hx)).1)))
        go_roundw
        case rel => exact ⟨_, u + m, by go_num, HPM.out.1 |> Lib.hid, HLF, HBF⟩
        case measure => simp only [intOf]; go_num
      · have HSC := Lib.hid (HP.out.stop HN5.out)
        have HLF := Lib.hid (HL.out.below HB5.out)
        have HBF := Lib.hid (below_on2 HB.out (.inl hrw) HB5.out)
        go_wp2_with fail
        go_ret2
        exact ⟨rs, u, _, rfl, HSC, HLF, HBF⟩
set_option maxHeartbeats 2000000 in
theorem RefScan_nil (A : Option Addr) (c : Nat) (g : Int) (w : World) (hc : c ≤ 9223372036854775807) :
    Calls Try.prog 20 #[.slice A 0 c, .int .i64 g] w (ScanPost w [] g) := by
  have HREC := Lib.hid (show ∀ (A' : Option Addr) (c' : Nat), c' ≤ c → Calls Try.prog 34 #[.slice A' 0 c', .int .i64 g, .int .i64 0] w (OnePost w [] g 0) from fun A' c' h => one_any A' 0 c' [] g 0 w (fun h0 => absurd h0 (by simp)) rfl ⟨Nat.zero_le _, by omega⟩)
  go_enter Try.func20, Try.ntmps20
  go_wp2_with fail
  go_loopw [6, 7] (fun v i wr => v = .slice none 0 0 ∧ i = .int .i64 0 ∧ Hid (wr = w)) (fun _ _ _ => 0)
  case atStart => exact ⟨rfl, rfl, Lib.hid rfl⟩
  case round =>
    obtain ⟨rfl, rfl, hw⟩ := hrel
    have hw := hw.out
    subst hw
    go_wp2_with fail
    all_goals
      go_at_call 34
      refine (HREC.out _ _ (by omega)).mono ?_
      rintro e w5 ⟨HB5, ⟨d, m, v5, HR5, rfl, HO5⟩ | ⟨HN5, rfl⟩⟩
      · exfalso
        obtain ⟨_, _, _, _, k⟩ := HR5.out
        have := k.le.1
        have := k.le.2.1
        simp at this
        omega
      · go_wp2_with fail
        go_ret2
        exact ⟨[], 0, _, rfl, Lib.hid (.stop HN5.out), Lib.hid (Lst.nil _ _), HB5⟩
theorem RefScan_any (A : Option Addr) (n c : Nat) (ss : List (List UInt8)) (g : Int) (w : World) (hA : RowsAt w A ss) (hn : ss.length = n) (hnc : n ≤ c ∧ c ≤ 9223372036854775807) (hnb : n ≤ 5864062014805) :
    Calls Try.prog 20 #[.slice A n c, .int .i64 g] w (ScanPost w ss g) := by
  cases ss with
  | nil =>
    have : n = 0 := by simpa using hn.symm
    subst this
    exact RefScan_nil A c g w hnc.2
  | cons x r =>
    obtain ⟨b, o, e, _⟩ := hA (by simp)
    subst e
    exact RefScan_some b o n c (x :: r) g w hA hn hnc hnb
end Go.Proofs.Ytlnahmgcjaodkaa
