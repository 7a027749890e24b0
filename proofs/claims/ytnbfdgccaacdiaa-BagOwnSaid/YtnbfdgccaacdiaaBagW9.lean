/- The statements' own helpers of layer 7: a short packet, a packet with bytes of its own. -/
import Derived.Test.YtnbfdgccaacdiaaBagW8
import Derived.Lib.ConvBytes
namespace Go.Proofs.Ytnbfdgccaacdiaa
open Go.RowKit
open By (BytesAt u8s own_shape)
set_option linter.unusedVariables false
set_option linter.unusedSimpArgs false
set_option maxRecDepth 100000
theorem list_toBA (l : List UInt8) : (⟨l.toArray⟩ : ByteArray).size = l.length := by simp [ByteArray.size]
theorem bytes_new (w : World) (l : List UInt8) : BytesAt (Lib.bytesWorld w 5 ⟨l.toArray⟩) (some ⟨w.heap.size, 0, none⟩) l ∧ Below w.heap.size w (Lib.bytesWorld w 5 ⟨l.toArray⟩) := by
  have hb : Below w.heap.size w (Lib.bytesWorld w 5 ⟨l.toArray⟩) := by
    refine ⟨rfl, rfl, rfl, ?_, fun k hk => Lib.bytesWorld_at_old w _ _ k hk⟩
    simp [Lib.bytesWorld, World.freeze, World.alloc, World.drew, -World.alloc_eq, -World.drew_eq]
  have hn := Lib.bytesWorld_at_new w 5 ⟨l.toArray⟩
  refine ⟨fun h0 => ⟨w.heap.size, 0, rfl, (Array.getElem?_eq_some_iff.1 hn).1, fun j x hj => ?_⟩, hb⟩
  have hj' := (List.getElem?_eq_some_iff.1 hj).1
  rw [Nat.zero_add, cell_of_row _ _ _ _ _ _ hn]
  unfold Lib.bytesCells
  rw [Array.getElem?_append_left (by simpa using hj')]
  simp only [Array.getElem?_map, List.getElem?_toArray, hj, Option.map_some]
  rfl
set_option maxHeartbeats 1000000 in
theorem packet_any (n : Int) (l : List UInt8) (w : World) :
    Calls Try.prog 23 #[.int .i64 n, .string ⟨l.toArray⟩] w fun e w' => ∃ A c, e = .returned (.agg (three ⟨n, 0, l⟩ A c)) ∧ Hid (BytesAt w' A l) ∧ Below w.heap.size w w' := by
  have hcv := fun w' : World => Lib.run_convert_string_bytes (P := Try.prog) w' 9 29 5 ⟨l.toArray⟩ Try.underlying9 Try.underlying29 Try.underlying5
  simp only [list_toBA] at hcv
  have HX := Lib.hid ((Below.refl _ w).alloc (Nat.le_refl _) (.cells zero3 31))
  have HZ := Lib.hid (Whole.new w 31 zero3)
  unfold zero3 at HX HZ
  go_enter Try.func23, Try.ntmps23
  go_upto_region 1 with (fail)
  generalize w.alloc (.cells #[Value.int .i64 0, Value.int .i64 0, Value.slice none 0 0] 31) = w0 at HX HZ ⊢
  have hcv0 := hcv w0
  clear hcv
  obtain ⟨hB, hb⟩ := bytes_new w0 l
  have HB := Lib.hid hB
  have HX1 := Lib.hid (below_on HX.out hb)
  have HZ1 := Lib.hid ((Mod.of_below hb []).whole HZ.out (by simp))
  clear hB hb
  generalize Lib.bytesWorld w0 _ _ = w1 at hcv0 HB HX1 HZ1
  have z0 : w1.cell? ⟨w.heap.size, 0, none⟩ = some (.int .i64 0) := HZ1.out.cell 0
  have z1 : w1.cell? ⟨w.heap.size, 1, none⟩ = some (.int .i64 0) := HZ1.out.cell 1
  have z2 : w1.cell? ⟨w.heap.size, 2, none⟩ = some (.slice none 0 0) := HZ1.out.cell 2
  have f0 := HZ1.out.frozen 0
  have f1 := HZ1.out.frozen 1
  have f2 := HZ1.out.frozen 2
  go_wp2_with fail
  refine bodyPost_ret (v := .agg (three ⟨n, 0, l⟩ (some ⟨w0.heap.size, 0, none⟩) (grownCap w0 l.length 0 5))) (by simp [results, Try.results23, go_sem, z0, z1, z2, three]) rfl ?_
  refine ⟨_, _, rfl, Lib.hid (HB.out.mod (mod3 w1 w.heap.size 0 1 2 _ _ _) (by intro ad e; injection e with e; subst e; have := HZ.out.lt; simp; omega)), ((HX1.out.setCell (Nat.le_refl _) _).setCell (Nat.le_refl _) _).setCell (Nat.le_refl _) _⟩
set_option maxHeartbeats 2000000 in
theorem lawOwn_any (p : Pk) (A : Option Addr) (c : Nat) (w : World) (hB : BytesAt w A p.d) (hl : p.d.length ≤ 140737488355328) :
    Calls Try.prog 18 #[.agg (three p A c)] w fun e w' => ∃ A' c', e = .returned (.agg (three p A' c')) ∧ Hid (w'.ownsRow w.heap.size 5 1 (.slice A' p.d.length c') p.d.length (u8s p.d)) ∧ Below w.heap.size w w' := by
  have HX := Lib.hid (((Below.refl _ w).alloc (Nat.le_refl _) (.cells (three p A c) 31)).alloc (by simp) (.cells zero3 31))
  have HP := Lib.hid ((Whole.new w 31 (three p A c)).alloc (.cells zero3 31))
  have HZ := Lib.hid (show Whole ((w.alloc (.cells (three p A c) 31)).alloc (.cells zero3 31)) (w.heap.size + 1) 31 zero3 by
    have h := Whole.new (w.alloc (.cells (three p A c) 31)) 31 zero3
    simpa using h)
  have HS := Lib.hid (show ((w.alloc (.cells (three p A c) 31)).alloc (.cells zero3 31)).heap.size = w.heap.size + 2 by simp)
  have HB := Lib.hid (hB.below HX.out)
  clear hB
  unfold zero3 at HX HP HZ HS HB
  go_enter Try.func18, Try.ntmps18
  go_upto_region 1 with (fail)
  generalize (w.alloc (.cells (three p A c) 31)).alloc _ = w1 at HX HP HZ HS HB ⊢
  have p2 : (w1.alloc (.cells #[] 5)).cell? ⟨w.heap.size, 2, none⟩ = some (.slice A p.d.length c) := (HP.out.alloc (.cells #[] 5)).cell 2
  go_wp2_with (at_builtin; refine By.app_all rfl (.tmp 3) (.tmp 5) rfl A c _ p.d rfl HB.out _ rfl rfl rfl hl ?_; intro A' n' c' w2 hm
               clear p2
               have HM := Lib.hid hm; clear hm
               have e := HM.out.1.out
               subst e
               have hm2 := Mod.of_below HM.out.2.2.2.1.out []
               have HP2 := Lib.hid (hm2.whole HP.out (by simp))
               have HZ2 := Lib.hid (hm2.whole HZ.out (by simp))
               have p0 : w2.cell? ⟨w.heap.size, 0, none⟩ = some (.int .i64 p.frm) := HP2.out.cell 0
               have p1 : w2.cell? ⟨w.heap.size, 1, none⟩ = some (.int .i64 p.dst) := HP2.out.cell 1
               have p2 : w2.cell? ⟨w.heap.size, 2, none⟩ = some (.slice A p.d.length c) := HP2.out.cell 2
               have g2 := HP2.out.frozen 2
               have z0 : w2.cell? ⟨w.heap.size + 1, 0, none⟩ = some (.int .i64 0) := HZ2.out.cell 0
               have z1 : w2.cell? ⟨w.heap.size + 1, 1, none⟩ = some (.int .i64 0) := HZ2.out.cell 1
               have z2 : w2.cell? ⟨w.heap.size + 1, 2, none⟩ = some (.slice none 0 0) := HZ2.out.cell 2
               have f0 := HZ2.out.frozen 0
               have f1 := HZ2.out.frozen 1
               have f2 := HZ2.out.frozen 2
               clear hm2)
  refine bodyPost_ret (v := .agg (three p A' c')) (by simp [results, Try.results18, go_sem, z0, z1, z2, three]) rfl ?_
  have ho2 := HM.out.2.2.1.out
  have hlt : ∀ k, (Value.slice A' p.d.length c').ownBlock = some k → w.heap.size + 1 < k := fun k hk => by
    have h1 := (ho2.lt k hk).1
    have h2 := HS.out
    omega
  refine ⟨A', c', rfl, Lib.hid (own_low ((mod3 _ (w.heap.size + 1) 0 1 2 _ _ _).own (((Mod.refl [w.heap.size] w2).store (p := ⟨w.heap.size, 2, none⟩) (.inl (by simp)) _).own ho2 (fun k hk => by have := hlt k hk; simp; omega)) (fun k hk => by have := hlt k hk; simp; omega)) (show w.heap.size ≤ w1.heap.size by have := HS.out; omega)), ?_⟩
  exact ((((below_on HX.out HM.out.2.2.2.1.out).setCell (p := ⟨w.heap.size, 2, none⟩) (Nat.le_refl _) _).setCell (p := ⟨w.heap.size + 1, 0, none⟩) (by simp) _).setCell (p := ⟨w.heap.size + 1, 1, none⟩) (by simp) _).setCell (p := ⟨w.heap.size + 1, 2, none⟩) (by simp) _
set_option maxHeartbeats 1000000 in
theorem List_nil (w : World) : Calls Try.prog 16 #[.pointer none] w fun e w' => ∃ B, e = .returned (.slice B 0 0) ∧ Below w.heap.size w w' := by
  have hmk : ∀ w' : World, (Instr.makeSlice 26 (.int .i64 0) (.int .i64 0)).run Try.prog w' = .ok (.slice (some ⟨w'.heap.size, 0, none⟩) 0 0) (w'.alloc (.cells (madeCells zero3 (0 * 3)) 31)) := fun w' => by
    obtain ⟨i0, hi, hz0, hz1, hz2⟩ := info_parts info_pk
    have h := run_make (P := Try.prog) w' 26 31 i0 (.agg zero3) Try.underlying26 hi hz0 .i64 .i64 0 0 (by omega) (by omega) (by rw [hz2]; omega) (by omega)
    simp only [hz1, Value.cells] at h
    exact h
  go_enter Try.func16, Try.ntmps16
  go_wp2_with fail
  refine (Len_nil w).mono ?_
  rintro e w1 ⟨rfl, rfl⟩
  go_wp2_with fail
  go_loopw [10] (fun i wx => i = .int .i64 0 ∧ Below w.heap.size w wx) (fun i _ => 0)
  case atStart => exact ⟨rfl, (Below.refl _ w).alloc (Nat.le_refl _) _⟩
  case round =>
    obtain ⟨rfl, hB⟩ := hrel
    have HB := Lib.hid hB
    clear hB
    go_wp2_with fail
    go_ret
    exact ⟨_, rfl, HB.out⟩
theorem mod_on {w a b : World} {g : Nat} (hx : Below w.heap.size w a) (hm : Mod [g] a b) (hg : w.heap.size ≤ g) : Below w.heap.size w b := hx.trans (hm.below hx.size (by intro x h; rw [List.mem_singleton.1 h]; exact hg))
end Go.Proofs.Ytnbfdgccaacdiaa
