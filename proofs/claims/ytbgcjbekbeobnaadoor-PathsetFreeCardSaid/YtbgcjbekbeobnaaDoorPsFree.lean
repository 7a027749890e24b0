/- No two entries of a set stand against each other if each was asked for first: the walk, over any Sets. -/
import Derived.Test.YtbgcjbekbeobnaaDoorPsL5
import Derived.Test.YtbgcjbekbeobnaaDoorPathsW2
namespace Go.Proofs.YtbgcjbekbeobnaaDoor.ahead
open Go.RowKit
open SE (Ent)
set_option linter.unusedVariables false
set_option maxRecDepth 100000
/-- No two stand against each other. -/
def FreeL (L : List Ent) : Prop := ∀ x ∈ L, ∀ y ∈ L, SE.against (SE.p y) y.mode y.who x = false
theorem free_nil : FreeL [] := by intro x hx; simp at hx
theorem free_drop {L : List Ent} (h : FreeL L) (id : Int) : FreeL (SE.drop L id) := fun x hx y hy => h x ((SE.drop_sublist L id).subset hx) y ((SE.drop_sublist L id).subset hy)
theorem lap_comm (a b : List UInt8) : SE.lap a b = SE.lap b a := by unfold SE.lap; rw [Bool.or_comm]
theorem clash_zero {L : List Ent} {q : List UInt8} {m who : Int} (h : (SE.clash L q m who).length = 0) : ∀ x ∈ L, SE.against q m who x = false := by
  unfold SE.clash at h
  rw [(SE.rise_perm _).length_eq, List.length_map] at h
  have h1 := List.eq_nil_of_length_eq_zero h
  intro x hx
  have := List.filter_eq_nil_iff.1 h1 x hx
  simpa using this
theorem clash_none {L : List Ent} {q : List UInt8} {m who : Int} (h : ∀ x ∈ L, SE.against q m who x = false) : (SE.clash L q m who).length = 0 := by
  unfold SE.clash
  rw [(SE.rise_perm _).length_eq, List.length_map, List.filter_eq_nil_iff.2 (fun x hx => by rw [h x hx]; decide)]
  rfl
theorem free_put {L : List Ent} (hI : SE.Inv L) (h : FreeL L) (e : Ent) (hc : (SE.clash L (SE.p e) e.mode e.who).length = 0) : FreeL (SE.put L e).1 := by
  have hc := clash_zero hc
  rcases SE.put_cases L e with ⟨_, h1⟩ | ⟨h1, h2, h3, h4, h5⟩
  · rw [h1]; exact h
  · rw [h1]
    intro x hx y hy
    rcases SE.ins_mem.1 hx with rfl | hx
    · rcases SE.ins_mem.1 hy with rfl | hy
      · unfold SE.against; simp
      · have k := hc y hy
        have m := hI.modes y hy
        unfold SE.against at k ⊢
        rw [m, lap_comm]
        rw [h3] at k
        have t : SE.together x.mode y.mode = SE.together y.mode x.mode := by unfold SE.together; rw [Bool.and_comm]
        have w : decide (x.who ≠ y.who) = decide (y.who ≠ x.who) := by
          by_cases e : x.who = y.who
          · simp [e]
          · have e2 : ¬ y.who = x.who := fun h => e h.symm
            simp [e, e2]
        rw [t, w]
        exact k
    · rcases SE.ins_mem.1 hy with e1 | hy
      · rw [e1]; exact hc x hx
      · exact h x hx y hy
/-- The set of the statement after k rounds. -/
def freeStep (gone : List Int) (L : List Ent) (k : Nat) (e : Ent) : List Ent :=
  let M := if (SE.clash L (SE.p e) e.mode e.who).length = 0 then (SE.put L e).1 else L
  match gone[k]? with
  | some id => SE.drop M id
  | none => M
set_option maxHeartbeats 4000000 in
theorem free_walk (S : Sets) (A : Option Addr) (c : Nat) (l : List Ent) (B : Option Addr) (d : Nat) (gone : List Int) (w : World) (hx : HasMax w) (hA : EntsAt w A l) (hl : l.length ≤ c) (hc : c ≤ 9223372036854775807) (hF : ∀ e ∈ l, Fair e)
    (hB : IntsAt w B gone) (hg : gone.length ≤ d) (hd : d ≤ 9223372036854775807) :
    Calls Tryd.prog 6 #[.slice A l.length c, .slice B gone.length d] w fun e w' => e = .returned (.bool true) ∧ Below w.heap.size w w' := by
  have HX := Lib.hid hx; clear hx
  have HA := Lib.hid hA; clear hA
  have HF := Lib.hid hF; clear hF
  have HG := Lib.hid hB; clear hB
  go_enter Tryd.func6, Tryd.ntmps6
  go_wp2_with fail
  refine (awake_any S _ HX.out).mono ?_
  rintro x w1 ⟨rfl, hb⟩
  have HB1 := Lib.hid hb; clear hb
  go_wp2_with fail
  refine (Mine.new S HX.out HB1.out).mono ?_
  rintro x w2 ⟨g, rfl, HM, _⟩
  unfold ptr
  go_wp2_with fail
  go_loopw [6, 7, 18] (fun _ _ i wx => ∃ (k : Nat) (L : List Ent), i = .int .i64 (k : Int) ∧ k ≤ l.length ∧ Hid (FreeL L) ∧ Hid (Mine S w g L [] wx)) (fun _ _ i _ => l.length - (intOf i).toNat)
  case atStart => exact ⟨0, [], rfl, by omega, Lib.hid free_nil, HM⟩
  case round =>
    obtain ⟨k, L, rfl, hk, HFr, HT⟩ := hrel
    by_cases hlt : k < l.length
    · obtain ⟨b, o, eA, hbl, hca⟩ := HA.out (by omega)
      subst eA
      have hbw := HT.out.on
      obtain ⟨x0, x1, x2, x3⟩ := (hca k l[k] (List.getElem?_eq_getElem hlt)).below hbl hbw
      have HE := Lib.hid (HF.out l[k] (List.getElem_mem hlt))
      clear hca hbw
      generalize l[k] = e at x0 x1 x2 x3 HE
      obtain ⟨ei, ep, em, ew⟩ := e
      simp only at x0 x1 x2 x3
      have HW := Lib.hid ((Below.refl wr.heap.size wr).alloc (Nat.le_refl _) (Obj.cells #[.int .i64 ei, .string ep, .int .i64 em, .int .i64 ew] 29))
      go_wp2_with fail
      --R1
      have hq := HE.out.2.1
      refine ((HT.out.below HW.out).clash ep em ew hq).mono ?_
      rintro x w4 ⟨A4, c4, rfl, _, hl4, hc4, HM4, HB4⟩
      obtain ⟨⟨y0, y1, y2, y3⟩, _, _⟩ := boxed (w := wr) (w2 := w4) ⟨ei, ep, em, ew⟩ HB4.out
      rw [Nat.zero_add] at y1 y2 y3
      simp only at y0 y1 y2 y3
      clear x0 x1 x2 x3
      have HCL := Lib.hid (fun (h : (SE.clash L ep.data.toList em ew).length = 0) => free_put HM4.out.inv HFr.out ⟨ei, ep, em, ew⟩ h)
      generalize hn : (SE.clash L ep.data.toList em ew).length = n at hl4 HCL
      clear hn
      cases n with
      | zero =>
        have HFp := Lib.hid (HCL.out rfl)
        go_wp2_with fail
        refine (HM4.out.put ⟨ei, ep, em, ew⟩ HE.out).mono ?_
        rintro x w5 ⟨rfl, HMp, _⟩
        clear HCL y0 y1 y2 y3
        by_cases hkg : k < gone.length
        · obtain ⟨bb, oo, eB, hbb, hcb⟩ := HG.out (by omega)
          subst eB
          have z0 : w5.cell? ⟨bb, oo + k, none⟩ = some (.int .i64 gone[k]) := (HMp.out.on.cell (p := ⟨bb, oo + k, none⟩) hbb).trans (hcb k gone[k] (List.getElem?_eq_getElem hkg))
          clear hcb
          generalize gone[k] = id at z0
          go_wp2_with fail
          refine (HMp.out.drop id).mono ?_
          rintro x w6 ⟨rfl, HM6, _⟩
          go_wp2_with fail
          go_roundw
          case rel => exact ⟨k + 1, _, rfl, by omega, Lib.hid (free_drop HFp.out id), HM6⟩
          case measure => simp only [intOf]; omega
        · go_wp2_with fail
          go_roundw
          case rel => exact ⟨k + 1, _, rfl, by omega, HFp, HMp⟩
          case measure => simp only [intOf]; omega
      | succ n =>
        have hne : ¬ ((n + 1 : Nat) : Int) = 0 := by omega
        have HFp := HFr
        have HMp := HM4
        clear HCL y0 y1 y2 y3
        generalize w4 = w5 at *
        by_cases hkg : k < gone.length
        · obtain ⟨bb, oo, eB, hbb, hcb⟩ := HG.out (by omega)
          subst eB
          have z0 : w5.cell? ⟨bb, oo + k, none⟩ = some (.int .i64 gone[k]) := (HMp.out.on.cell (p := ⟨bb, oo + k, none⟩) hbb).trans (hcb k gone[k] (List.getElem?_eq_getElem hkg))
          clear hcb
          generalize gone[k] = id at z0
          go_wp2_with fail
          refine (HMp.out.drop id).mono ?_
          rintro x w6 ⟨rfl, HM6, _⟩
          go_wp2_with fail
          go_roundw
          case rel => exact ⟨k + 1, _, rfl, by omega, Lib.hid (free_drop HFp.out id), HM6⟩
          case measure => simp only [intOf]; omega
        · go_wp2_with fail
          go_roundw
          case rel => exact ⟨k + 1, _, rfl, by omega, HFp, HMp⟩
          case measure => simp only [intOf]; omega
    · have he : k = l.length := by omega
      clear hk hlt
      go_wp2_with fail
      refine (HT.out.list).mono ?_
      rintro x w3 ⟨A3, c3, rfl, HE3, hl3, hc3, HM3, HB3⟩
      have h64 := HM3.out.inv.len
      have HFa := Lib.hid (fun (a b : Ent) (ha : a ∈ L) (hb : b ∈ L) => (⟨HFr.out b hb a ha, HM3.out.inv.modes a ha, HM3.out.inv.modes b hb, HM3.out.fair a ha, HM3.out.fair b hb⟩ : _ ∧ _ ∧ _ ∧ _ ∧ _))
      have HCz := Lib.hid (fun (a : Ent) (ha : a ∈ L) => clash_none (fun x hx => HFr.out x hx a ha))
      go_wp2_with fail
      go_loopw [9, 10, 12, 51] (fun _ _ _ i wx => ∃ k : Nat, i = .int .i64 (k : Int) ∧ k ≤ L.length ∧ Hid (Mine S w g L [] wx) ∧ Hid (Below w3.heap.size w3 wx)) (fun _ _ _ i _ => L.length - (intOf i).toNat)
      case atStart => exact ⟨0, rfl, by omega, HM3, Lib.hid (Below.refl _ _)⟩
      case round =>
        obtain ⟨k, rfl, hk, HMk, HBk⟩ := hrel
        by_cases hlt : k < L.length
        · obtain ⟨b, o, eA, hbl, hca⟩ := HE3.out (by omega)
          subst eA
          obtain ⟨x0, x1, x2, x3⟩ := (hca k L[k] (List.getElem?_eq_getElem hlt)).below hbl HBk.out
          have ha : L[k] ∈ L := List.getElem_mem hlt
          have HEn := Lib.hid (fun j (hj : j < L.length) => hca j L[j] (List.getElem?_eq_getElem hj))
          clear hca
          generalize L[k] = a at x0 x1 x2 x3 ha
          obtain ⟨ai, ap, am, aw⟩ := a
          simp only at x0 x1 x2 x3
          have HMem := Lib.hid ha
          clear ha
          have HW := Lib.hid (Below.refl (wr.alloc (.cells (four ⟨ai, ap, am, aw⟩).toArray 29)).heap.size (wr.alloc (.cells (four ⟨ai, ap, am, aw⟩).toArray 29)))
          have HBx := Lib.hid (fun w5 hb => boxed (w := wr) (w2 := w5) ⟨ai, ap, am, aw⟩ hb)
          have hkc : k ≤ c3 := by omega
          go_wp2_with fail
          go_loopw [12, 60] (fun _ i wx => ∃ j : Nat, i = .int .i64 (j : Int) ∧ j ≤ k ∧ Hid (Below (wr.alloc (.cells (four ⟨ai, ap, am, aw⟩).toArray 29)).heap.size (wr.alloc (.cells (four ⟨ai, ap, am, aw⟩).toArray 29)) wx)) (fun _ i _ => k - (intOf i).toNat)
          case atStart => exact ⟨0, rfl, by omega, HW⟩
          case round =>
            obtain ⟨j, rfl, hj, HBj⟩ := hrel
            have HB13 := Lib.hid (below_on HBk.out (HBx.out _ HBj.out).2.1)
            obtain ⟨⟨a0, a1, a2, a3⟩, _, _⟩ := HBx.out _ HBj.out
            rw [Nat.zero_add] at a1 a2 a3
            simp only at a0 a1 a2 a3
            clear x0 x1 x2 x3
            by_cases hjk : j < k
            · have hjL : j < L.length := by omega
              obtain ⟨y0, y1, y2, y3⟩ := (HEn.out j hjL).below hbl HB13.out
              have hf := HFa.out ⟨ai, ap, am, aw⟩ L[j] HMem.out (List.getElem_mem hjL)
              generalize L[j] = e at y0 y1 y2 y3 hf
              obtain ⟨bi, bp, bm, bw⟩ := e
              simp only at y0 y1 y2 y3 hf
              obtain ⟨h1, h2, h3, h4, h5⟩ := hf
              have hs1 : ap.size ≤ 9223372036854775807 := by have := h4.2.1; simp only at this; omega
              have hs2 : bp.size ≤ 9223372036854775807 := by have := h5.2.1; simp only at this; omega
              have HOV := Lib.hid (fun w => Overlap_any ap bp w hs1 hs2)
              unfold SE.against SE.lap SE.p at h1
              simp only at h1
              rw [h2, Bool.or_comm (PM.cov bp.data.toList ap.data.toList)] at h1
              generalize (PM.cov ap.data.toList bp.data.toList || PM.cov bp.data.toList ap.data.toList) = v at h1 HOV
              clear h2 h3 h4 h5 hs1 hs2
              by_cases hw : aw = bw
              · subst hw
                clear h1
                go_wp2_with fail
                go_roundw
                case rel => exact ⟨j + 1, rfl, by omega, Lib.hid (HBj.out.alloc HBj.out.size _)⟩
                case measure => simp only [intOf]; omega
              · have dw : (aw != bw) = true := by simpa using hw
                have hw2 : ¬ bw = aw := fun h => hw h.symm
                cases v with
                | false =>
                  clear h1
                  go_wp2_with fail
                  refine (HOV.out _).mono ?_
                  rintro x w5 ⟨rfl, rfl⟩
                  go_wp2_with fail
                  go_roundw
                  case rel => exact ⟨j + 1, rfl, by omega, Lib.hid (HBj.out.alloc HBj.out.size _)⟩
                  case measure => simp only [intOf]; omega
                | true =>
                  have hm : bm = 1 ∧ am = 1 := by
                    unfold SE.together at h1
                    simpa [hw2] using h1
                  obtain ⟨rfl, rfl⟩ := hm
                  clear h1 hw2
                  go_wp2_with fail
                  refine (HOV.out _).mono ?_
                  rintro x w5 ⟨rfl, rfl⟩
                  go_wp2_with fail
                  go_roundw
                  case rel => exact ⟨j + 1, rfl, by omega, Lib.hid (HBj.out.alloc HBj.out.size _)⟩
                  case measure => simp only [intOf]; omega
            · have he2 : j = k := by omega
              subst he2
              have hq := (HFa.out _ _ HMem.out HMem.out).2.2.2.1.2.1
              have hz := HCz.out _ HMem.out
              unfold SE.p at hz
              simp only at hz hq
              have HCl := Lib.hid ((HMk.out.below (HBx.out _ HBj.out).2.1).clash ap am aw hq)
              rw [hz] at HCl
              clear hz hjk
              go_wp2_with fail
              refine HCl.out.mono ?_
              rintro x w5 ⟨A5, c5, rfl, _, _, _, HM5, HB5⟩
              go_wp2_with fail
              go_roundw
              case rel => exact ⟨j + 1, rfl, by omega, HM5, Lib.hid (below_on HB13.out HB5.out)⟩
              case measure => simp only [intOf]; omega
        · have he3 : k = L.length := by omega
          clear hlt hk
          go_wp2_with fail
          refine (HMk.out.len).mono ?_
          rintro x w5 ⟨rfl, HM5, _⟩
          go_wp2_with fail
          go_ret
          exact ⟨by simp, HM5.out.on⟩
end Go.Proofs.YtbgcjbekbeobnaaDoor.ahead
