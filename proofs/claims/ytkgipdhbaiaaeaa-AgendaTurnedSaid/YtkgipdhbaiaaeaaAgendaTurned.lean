/- What an agenda answers does not hang on the order in which its items came, or were moved; for every list of items and every list of numbers. -/
import Derived.Test.YtkgipdhbaiaaeaaRows
import Derived.Test.YtkgipdhbaiaaeaaAgSt
import Derived.Test.YtkgipdhbaiaaeaaAgR3
import Derived.Test.YtkgipdhbaiaaeaaAgArg
import Derived.Test.YtkgipdhbaiaaeaaLawBare
import Derived.JoinedCond
import Derived.OpenShut
import Derived.Deep.CutBlock
namespace Go.Proofs.Ytkgipdhbaiaaeaa.lawAgendaTurned
open Go Go.RowKit Go.ChangeShapes Go.WideShapes Go.ChangeAt
set_option linter.unusedVariables false
set_option linter.unusedSimpArgs false
open AM (It HS g sw)
def key (a b : It) : Prop := a.kind = b.kind ∧ a.key = b.key
theorem key_symm {a b : It} (h : key a b) : key b a := ⟨h.1.symm, h.2.symm⟩
theorem key_trans {a b d : It} (h : key a b) (k : key b d) : key a d := ⟨h.1.trans k.1, h.2.trans k.2⟩
theorem has_key {L : List It} {x : It} : AM.has L x.kind x.key = true ↔ ∃ z ∈ L, key z x := by
  unfold AM.has
  rw [List.any_eq_true]
  exact ⟨fun ⟨z, hz, h⟩ => ⟨z, hz, AM.hit_iff.1 h⟩, fun ⟨z, hz, h⟩ => ⟨z, hz, AM.hit_iff.2 h⟩⟩
/-- The first k of a list, each may be, no two with one key. -/
structure Ok (xs : List It) (k : Nat) : Prop where
  may : ∀ i, i < k → AM.may (g xs i) = true
  keys : ∀ i j, i < k → j < i → ¬ key (g xs i) (g xs j)
theorem Ok.zero (xs : List It) : Ok xs 0 := ⟨fun i hi => absurd hi (Nat.not_lt_zero i), fun i j hi => absurd hi (Nat.not_lt_zero i)⟩
theorem Ok.ne {xs : List It} {k i j : Nat} (h : Ok xs k) (hi : i < k) (hj : j < k) (hij : i ≠ j) : ¬ key (g xs i) (g xs j) := by
  by_cases e : j < i
  · exact h.keys i j hi e
  · exact fun e2 => h.keys j i hj (by omega) (key_symm e2)
/-- The agenda that has taken the first i. -/
structure Fst (xs L : List It) (i : Nat) : Prop where
  len : L.length = i
  inn : ∀ j, j < i → g xs j ∈ L
  out : ∀ z ∈ L, ∃ j, j < i ∧ z = g xs j
theorem put_new {L : List It} {x : It} (hm : AM.may x = true) (hn : AM.has L x.kind x.key = false) (hl : L.length < 32) : AM.put L x = (AM.ins L x, 0) := by
  unfold AM.put
  rw [if_neg (by rw [hm]; simp), if_neg (fun h => by omega), AM.drop_same hn]
theorem put_old {L : List It} {x : It} (hm : AM.may x = true) (hn : AM.has L x.kind x.key = true) : AM.put L x = (AM.ins (AM.drop L x.kind x.key) x, 0) := by
  unfold AM.put
  rw [if_neg (by rw [hm]; simp), if_neg (fun h => by rw [hn] at h; exact absurd h.1 (by simp))]
theorem Fst.step {xs L : List It} {i n : Nat} (h : Fst xs L i) (ho : Ok xs n) (hi : i < n) (hn : n ≤ 32) : ∃ L', AM.put L (g xs i) = (L', 0) ∧ Fst xs L' (i + 1) := by
  have h1 : AM.has L (g xs i).kind (g xs i).key = false := AM.has_false.2 (fun z hz e => by
    obtain ⟨j, hj, rfl⟩ := h.out z hz
    exact ho.keys i j hi hj (key_symm e))
  refine ⟨_, put_new (ho.may i hi) h1 (by rw [h.len]; omega), by rw [(AM.ins_perm ..).length_eq]; simp [h.len], fun j hj => ?_, fun z hz => ?_⟩
  · rw [AM.ins_mem]
    by_cases e : j = i
    · left; rw [e]
    · right; exact h.inn j (by omega)
  · rcases AM.ins_mem.1 hz with e | e
    · exact ⟨i, by omega, e⟩
    · obtain ⟨j, hj, e2⟩ := h.out z e
      exact ⟨j, by omega, e2⟩
/-- The agenda that has taken the last i, moved or not. -/
structure Snd (xs L : List It) (n i : Nat) : Prop where
  len : L.length = i
  has : ∀ j, n - i ≤ j → j < n → ∃ z ∈ L, key z (g xs j)
  out : ∀ z ∈ L, ∃ j, n - i ≤ j ∧ j < n ∧ key z (g xs j)
theorem Snd.step {xs L : List It} {n i : Nat} {x : It} (h : Snd xs L n i) (ho : Ok xs n) (hi : i < n) (hn : n ≤ 32) (hx : key x (g xs (n - 1 - i))) (hm : AM.may x = true) : ∃ L', AM.put L x = (L', 0) ∧ Snd xs L' n (i + 1) := by
  have h1 : AM.has L x.kind x.key = false := AM.has_false.2 (fun z hz e => by
    obtain ⟨j, hj, hjn, e2⟩ := h.out z hz
    exact ho.ne (i := j) (j := n - 1 - i) hjn (by omega) (by omega) (key_trans (key_symm e2) (key_trans e hx)))
  refine ⟨_, put_new hm h1 (by rw [h.len]; omega), by rw [(AM.ins_perm ..).length_eq]; simp [h.len], fun j hj hjn => ?_, fun z hz => ?_⟩
  · by_cases e : j = n - 1 - i
    · exact ⟨x, AM.ins_mem.2 (.inl rfl), by rw [e]; exact hx⟩
    · obtain ⟨z, hz, hk⟩ := h.has j (by omega) hjn
      exact ⟨z, AM.ins_mem.2 (.inr hz), hk⟩
  · rcases AM.ins_mem.1 hz with e | e
    · exact ⟨n - 1 - i, by omega, by omega, by rw [e]; exact hx⟩
    · obtain ⟨j, hj, hjn, e2⟩ := h.out z e
      exact ⟨j, by omega, hjn, e2⟩
/-- That agenda, while the first i are put back. -/
structure Trd (xs L : List It) (n i : Nat) : Prop where
  inn : ∀ j, j < i → g xs j ∈ L
  has : ∀ j, j < n → ∃ z ∈ L, key z (g xs j)
  out : ∀ z ∈ L, ∃ j, j < n ∧ key z (g xs j)
theorem Snd.trd {xs L : List It} {n : Nat} (h : Snd xs L n n) : Trd xs L n 0 := ⟨fun j hj => absurd hj (Nat.not_lt_zero j), fun j hj => h.has j (by omega) hj, fun z hz => by obtain ⟨j, _, h1, h2⟩ := h.out z hz; exact ⟨j, h1, h2⟩⟩
theorem mem_drop {L : List It} {k y : Int} {z : It} : z ∈ AM.drop L k y ↔ z ∈ L ∧ ¬ (z.kind = k ∧ z.key = y) := by
  unfold AM.drop
  rw [List.mem_filter]
  refine and_congr_right fun _ => ?_
  rw [← AM.hit_iff (k := k) (y := y)]
  cases AM.hit k y z <;> simp
theorem Trd.step {xs L : List It} {n i : Nat} (h : Trd xs L n i) (ho : Ok xs n) (hi : i < n) : ∃ L', AM.put L (g xs i) = (L', 0) ∧ Trd xs L' n (i + 1) := by
  refine ⟨_, put_old (ho.may i hi) (has_key.2 (h.has i hi)), fun j hj => ?_, fun j hj => ?_, fun z hz => ?_⟩
  · rw [AM.ins_mem]
    by_cases e : j = i
    · left; rw [e]
    · right
      exact mem_drop.2 ⟨h.inn j (by omega), fun e2 => ho.ne (i := j) (j := i) (by omega) hi e e2⟩
  · by_cases e : j = i
    · exact ⟨g xs i, AM.ins_mem.2 (.inl rfl), by rw [e]; exact ⟨rfl, rfl⟩⟩
    · obtain ⟨z, hz, hk⟩ := h.has j hj
      exact ⟨z, AM.ins_mem.2 (.inr (mem_drop.2 ⟨hz, fun e2 => ho.ne (i := j) (j := i) hj hi e (key_trans (key_symm hk) e2)⟩)), hk⟩
  · rcases AM.ins_mem.1 hz with e | e
    · exact ⟨i, hi, by rw [e]; exact ⟨rfl, rfl⟩⟩
    · exact h.out z (mem_drop.1 e).1
theorem both_same {xs L M : List It} {n : Nat} (h : Fst xs L n) (k : Trd xs M n n) (hL : AM.Good L) (hM : AM.Good M) : L = M := by
  refine same_mem hL.sorted hM.sorted fun x => ⟨fun hx => ?_, fun hx => ?_⟩
  · obtain ⟨j, hj, rfl⟩ := h.out x hx
    exact k.inn j hj
  · obtain ⟨j, hj, hk⟩ := k.out x hx
    have e : x = g xs j := by
      have hp := hM.keys
      apply Decidable.byContradiction
      intro hne
      obtain ⟨a, ha, rfl⟩ := List.getElem_of_mem hx
      obtain ⟨b, hb, e⟩ := List.getElem_of_mem (k.inn j hj)
      rw [← e] at hk hne
      have hab : a ≠ b := fun e2 => hne (by subst e2; rfl)
      rw [List.pairwise_iff_getElem] at hp
      rcases Nat.lt_or_gt_of_ne hab with h1 | h1
      · exact hp a b ha hb h1 hk
      · exact hp b a hb ha h1 (key_symm hk)
    rw [e]
    exact h.inn j hj
theorem nums_at {w : World} {B : Option Addr} {ns : List Int} (h : IntsAt w B ns) {k : Nat} (hk : k < ns.length) : ∃ b o, B = some ⟨b, o, none⟩ ∧ w.cell? ⟨b, o + k, none⟩ = some (.int .i64 (ns.getD k 0)) := by
  obtain ⟨b, o, e, hb, hc⟩ := h (by omega)
  refine ⟨b, o, e, ?_⟩
  have := hc k (ns.getD k 0) (by rw [List.getD_eq_getElem?_getD, List.getElem?_eq_getElem hk]; rfl)
  exact this
theorem new_two (w0 w : World) (hb : Below w0.heap.size w0 w) : Sx w0 ((w.alloc (.cells ag0 59)).alloc (.cells ag0 59)) w.heap.size (w.heap.size + 1) [] [] := by
  have e : (w.alloc (.cells ag0 59)).heap.size = w.heap.size + 1 := by simp
  have h2 := AgAt.new (w.alloc (.cells ag0 59))
  rw [e] at h2
  exact ⟨(hb.alloc hb.size _).alloc (by rw [e]; have := hb.size; omega) _, (AgAt.new w).below ((Below.refl _ _).alloc (Nat.le_refl _) _), h2, by omega, hb.size, by have := hb.size; omega⟩
theorem Sx.set {w0 w : World} {s t : Nat} {L M : List It} (h : Sx w0 w s t L M) {p : Nat} (hp : w0.heap.size ≤ p) (h1 : p ≠ s) (h2 : p ≠ t) (u : Value) : Sx w0 (w.setCell ⟨p, 0, none⟩ u) s t L M := by
  have hm : Mod [p] w (w.setCell ⟨p, 0, none⟩ u) := (Mod.refl _ w).store (.inl (by simp)) u
  exact ⟨h.below.setCell hp _, h.sa.mod hm (by simpa using h1.symm), h.ta.mod hm (by simpa using h2.symm), h.ne, h.fs, h.ft⟩
theorem Ok.mays {xs L : List It} {n : Nat} (h : Fst xs L n) (ho : Ok xs n) : Mays L := fun z hz => by
  obtain ⟨j, hj, rfl⟩ := h.out z hz
  exact ho.may j hj
set_option maxRecDepth 100000 in
set_option maxHeartbeats 16000000 in
theorem walk (A : Option Addr) (c : Nat) (xs : List It) (B : Option Addr) (d : Nat) (ns : List Int) (w : World) (hP : ItsAt w A xs) (hc : xs.length ≤ c) (hm : c * 24 ≤ 140737488351232) (hl : ∀ x ∈ xs, ItW x) (hI : IntsAt w B ns) (hd : ns.length ≤ d) (hm2 : d * 8 ≤ 140737488351232) (hl2 : ∀ x ∈ ns, -9223372036854775808 ≤ x ∧ x ≤ 9223372036854775807) :
    Calls Try.prog 6 #[.slice A xs.length c, .slice B ns.length d] w (LK.True_ w) := by
  obtain ⟨n, hn⟩ : ∃ n, xs.length = n := ⟨_, rfl⟩
  obtain ⟨m, hnm⟩ : ∃ n, ns.length = n := ⟨_, rfl⟩
  have HN := Lib.hid hn
  have HNM := Lib.hid hnm
  rw [hn] at hc ⊢
  rw [hnm] at hd ⊢
  have HPW := Lib.hid hP
  have HIW := Lib.hid hI
  have hn9 : n ≤ 5864062014806 := by omega
  have hm9 : m ≤ 17592186043904 := by omega
  clear hP hl hn hI hl2 hnm
  go_enter Try.func6, Try.ntmps6
  go_wp2_with fail
  refine (awake_any w).mono ?_
  rintro e w1 ⟨rfl, hb⟩
  have HB1 := Lib.hid hb
  clear hb
  by_cases h32 : n ≤ 32
  · have d0 : decide (32 < (n : Int)) = false := by simp; omega
    go_wp2_with fail
    go_loopw [25] (fun i wx => ∃ k : Nat, i = .int .i64 (k : Int) ∧ k ≤ n ∧ Hid (Ok xs k) ∧ Hid (Below w.heap.size w wx)) (fun i _ => n - (intOf i).toNat)
    case atStart => exact ⟨0, rfl, Nat.zero_le _, Lib.hid (Ok.zero xs), HB1⟩
    case round =>
      obtain ⟨k, rfl, hk, HOK, HB⟩ := hrel
      by_cases hlt : k < n
      · have hw : IntKind.i64.wrap ((k : Int) + 1) = (k : Int) + 1 := IntWalk.i64_in _ (by omega)
        have d1 : (k : Int) < (n : Int) := by omega
        have d2 : (0 : Int) ≤ (k : Int) := by omega
        have hkc : k ≤ c := by omega
        obtain ⟨b, o, hA, hb, i0, i1, i2⟩ := (HPW.out.below HB.out).at (k := k) (by rw [HN.out]; exact hlt)
        subst hA
        by_cases m0 : (g xs k).due < 0
        · go_wp2_with fail
          go_ret
          exact ⟨rfl, HB.out⟩
        · by_cases m1 : 4611686018427387904 < (g xs k).due
          · go_wp2_with fail
            go_ret
            exact ⟨rfl, HB.out⟩
          · by_cases m2 : (g xs k).kind < 1
            · go_wp2_with fail
              go_ret
              exact ⟨rfl, HB.out⟩
            · by_cases m3 : 4 < (g xs k).kind
              · go_wp2_with fail
                go_ret
                exact ⟨rfl, HB.out⟩
              · have HMAY := Lib.hid (show AM.may (g xs k) = true by
                  simp only [AM.may, Bool.and_eq_true, decide_eq_true_eq]
                  omega)
                go_wp2_with fail
                clear m0 m1 m2 m3 i0 i1 i2
                go_loopw [62] (fun i wx => ∃ j : Nat, i = .int .i64 (j : Int) ∧ j ≤ k ∧ Hid (∀ j', j' < j → ¬ key (g xs k) (g xs j')) ∧ Hid (Below w.heap.size w wx)) (fun i _ => k - (intOf i).toNat)
                case atStart => exact ⟨0, rfl, Nat.zero_le _, Lib.hid (fun j hj => absurd hj (Nat.not_lt_zero j)), HB⟩
                case round =>
                  obtain ⟨j, rfl, hj, HKJ, HB2⟩ := hrel
                  by_cases hjk : j < k
                  · have hw2 : IntKind.i64.wrap ((j : Int) + 1) = (j : Int) + 1 := IntWalk.i64_in _ (by omega)
                    have d3 : (j : Int) < (k : Int) := by omega
                    have d4 : (0 : Int) ≤ (j : Int) := by omega
                    have d5 : (j : Int) < (n : Int) := by omega
                    obtain ⟨b', o', hA', hb', i0, i1, i2⟩ := (HPW.out.below HB2.out).at (k := k) (by rw [HN.out]; exact hlt)
                    obtain ⟨b2, o2, hA2, hb2, j0, j1, j2⟩ := (HPW.out.below HB2.out).at (k := j) (by rw [HN.out]; omega)
                    injection hA' with e
                    injection e with e1 e2
                    subst e1 e2
                    injection hA2 with e
                    injection e with e1 e2
                    subst e1 e2
                    have HBQ := Lib.hid (fun q : Nat => below_on HB2.out (drewN_below wr q))
                    by_cases h1 : (g xs k).kind = (g xs j).kind
                    · by_cases h2 : (g xs k).key = (g xs j).key
                      · rw [← h1] at j1
                        rw [← h2] at j2
                        go_wp2_with fail
                        go_quiet (fail)
                        go_wp2_with fail
                        go_ret
                        exact ⟨rfl, HBQ.out _⟩
                      · have HKN := Lib.hid (show ¬ key (g xs k) (g xs j) from fun e => h2 e.2)
                        rw [← h1] at j1
                        have e2 : ((g xs k).key == (g xs j).key) = false := by rw [beq_eq_false_iff_ne]; exact h2
                        clear h1
                        go_wp2_with fail
                        go_quiet (fail)
                        go_wp2_with fail
                        go_roundw
                        case rel => exact ⟨j + 1, rfl, by omega, Lib.hid (fun q hq => by
                          by_cases e : q = j
                          · rw [e]; exact HKN.out
                          · exact HKJ.out q (by omega)), Lib.hid (HBQ.out _)⟩
                        case measure => simp [intOf]; omega
                    · have HKN := Lib.hid (show ¬ key (g xs k) (g xs j) from fun e => h1 e.1)
                      have e1 : ((g xs k).kind == (g xs j).kind) = false := by rw [beq_eq_false_iff_ne]; exact h1
                      go_wp2_with fail
                      go_quiet (fail)
                      go_wp2_with fail
                      go_roundw
                      case rel => exact ⟨j + 1, rfl, by omega, Lib.hid (fun q hq => by
                        by_cases e : q = j
                        · rw [e]; exact HKN.out
                        · exact HKJ.out q (by omega)), Lib.hid (HBQ.out _)⟩
                      case measure => simp [intOf]; omega
                  · have d3 : decide ((j : Int) < (k : Int)) = false := by simp; omega
                    have HOK2 := Lib.hid (show Ok xs (k + 1) from ⟨fun i hi => by
                      by_cases e : i = k
                      · rw [e]; exact HMAY.out
                      · exact HOK.out.may i (by omega), fun i q hi hq => by
                      by_cases e : i = k
                      · rw [e] at hq ⊢; exact HKJ.out q (by omega)
                      · exact HOK.out.keys i q (by omega) hq⟩)
                    go_wp2_with fail
                    go_roundw
                    case rel => exact ⟨k + 1, rfl, by omega, HOK2, HB2⟩
                    case measure => simp [intOf]; omega
      · have d1 : decide ((k : Int) < (n : Int)) = false := by simp; omega
        have hkn : k = n := by omega
        rw [hkn] at HOK
        go_wp2_with fail
        refine (New_any wr).mono ?_
        rintro e w11 ⟨rfl, e1⟩
        subst e1
        go_wp2_with fail
        refine (New_any _).mono ?_
        rintro e w12 ⟨rfl, e1⟩
        have HX := Lib.hid (new_two w wr HB.out)
        rw [← e1] at HX
        have hz : (wr.alloc (.cells ag0 59)).heap.size = wr.heap.size + 1 := by simp
        rw [hz]
        generalize wr.heap.size + 1 = t at HX ⊢
        generalize wr.heap.size = s at HX ⊢
        clear e1 hz HB
        go_wp2_with fail
        go_loopw [95] (fun iv wx => ∃ (i : Nat) (La Lb : List It), iv = .int .i64 (i : Int) ∧ i ≤ n ∧ Hid (Sx w wx s t La Lb) ∧ Hid (Fst xs La i) ∧ Hid (Snd xs Lb n i)) (fun iv _ => n - (intOf iv).toNat)
        case atStart => exact ⟨0, [], [], rfl, Nat.zero_le _, HX, Lib.hid ⟨rfl, fun j hj => absurd hj (Nat.not_lt_zero j), fun z hz => by cases hz⟩, Lib.hid ⟨rfl, fun j h1 h2 => by omega, fun z hz => by cases hz⟩⟩
        case round =>
          obtain ⟨i, La, Lb, rfl, hi, HS, HFS, HSD⟩ := hrel
          by_cases hin : i < n
          · have hw : IntKind.i64.wrap ((i : Int) + 1) = (i : Int) + 1 := IntWalk.i64_in _ (by omega)
            have d2 : (i : Int) < (n : Int) := by omega
            have d3 : (0 : Int) ≤ (i : Int) := by omega
            obtain ⟨b, o, hA, hb, i0, i1, i2⟩ := (HPW.out.below HS.out.below).at (k := i) (by rw [HN.out]; exact hin)
            subst hA
            obtain ⟨La2, hpa, hfa⟩ := HFS.out.step HOK.out hin h32
            have HPA := Lib.hid hpa
            have HF2 := Lib.hid hfa
            clear hpa hfa
            go_wp2_with fail
            refine (Put_says (x := g xs i) HS.out.sa HPA.out).mono ?_
            rintro e w4 ⟨rfl, ha, hm4⟩
            have HS4 := Lib.hid (HS.out.puts ha hm4)
            clear ha hm4 HPA HS i0 i1 i2 hb
            obtain ⟨b', o', hA', hb', i0, i1, i2⟩ := (HPW.out.below HS4.out.below).at (k := n - 1 - i) (by rw [HN.out]; omega)
            injection hA' with e
            injection e with e1 e2
            subst e1 e2
            have s1 : IntKind.i64.wrap ((n : Int) - 1) = (n : Int) - 1 := IntWalk.i64_in _ (by omega)
            obtain ⟨q, hq⟩ : ∃ q : Int, q = ((n - 1 - i : Nat) : Int) := ⟨_, rfl⟩
            have s2 : IntKind.i64.wrap ((n : Int) - 1 - (i : Int)) = q := by rw [IntWalk.i64_in _ (by omega)]; omega
            have s3 : (0 : Int) ≤ q := by omega
            have s4 : q < (n : Int) := by omega
            have s5 : q.toNat = n - 1 - i := by omega
            have HS5 := Lib.hid (HS4.out.on ((Below.refl _ w4).alloc (Nat.le_refl _) (.cells (three (g xs (n - 1 - i))) 29)))
            have HW5 := Lib.hid (Whole.new w4 29 (three (g xs (n - 1 - i))))
            have hc3 := three_cells HW5.out
            obtain ⟨c0, c1, c2⟩ := hc3
            have f0 := HW5.out.frozen 0
            unfold three at HS5 HW5 c0 c1 c2 f0
            clear hq
            go_upto_region 24 with (fail)
            clear i0 i1 i2 hb' s1 s2 s3 s4 s5
            have HPXF := Lib.hid HS4.out.below.size
            generalize hpp : w4.heap.size = px at HW5 c0 c1 c2 f0 HPXF ⊢
            generalize w4.alloc (.cells #[.int .i64 (g xs (n - 1 - i)).due, .int .i64 (g xs (n - 1 - i)).kind, .int .i64 (g xs (n - 1 - i)).key] 29) = w5 at HS5 HW5 c0 c1 c2 f0 ⊢
            clear hpp HS4
            have HW5' : Hid (Whole w5 px 29 (three (g xs (n - 1 - i)))) := HW5
            clear HW5
            have HW5 := HW5'
            clear HW5'
            by_cases him : i < m
            · have d4 : (i : Int) < (m : Int) := by omega
              obtain ⟨nb, no, hB, n0⟩ := nums_at (HIW.out.below HS5.out.below) (k := i) (by rw [HNM.out]; exact him)
              subst hB
              by_cases hp0 : 0 ≤ ns.getD i 0
              · by_cases hp1 : ns.getD i 0 ≤ 4611686018427387904
                · obtain ⟨v, hv⟩ : ∃ v, ns.getD i 0 = v := ⟨_, rfl⟩
                  rw [hv] at n0 hp0 hp1
                  clear hv
                  have hv0 := hp0
                  have hv1 := hp1
                  have HMY := Lib.hid (show AM.may ⟨v, (g xs (n - 1 - i)).kind, (g xs (n - 1 - i)).key⟩ = true by
                    have h := HOK.out.may (n - 1 - i) (by omega)
                    simp only [AM.may, Bool.and_eq_true, decide_eq_true_eq] at h ⊢
                    exact ⟨⟨⟨hp0, hp1⟩, h.1.2⟩, h.2⟩)
                  obtain ⟨Lb2, hpb, hsb⟩ := HSD.out.step HOK.out hin h32 (x := ⟨v, (g xs (n - 1 - i)).kind, (g xs (n - 1 - i)).key⟩) ⟨rfl, rfl⟩ HMY.out
                  have HPB := Lib.hid hpb
                  have HSB := Lib.hid hsb
                  clear hpb hsb
                  have hne1 : px ≠ s := HS5.out.sa.ne HW5.out
                  have hne2 : px ≠ t := HS5.out.ta.ne HW5.out
                  have HS6 := Lib.hid (Sx.set HS5.out HPXF.out hne1 hne2 (.int .i64 v))
                  have HW6 := Lib.hid (HW5.out.store 0 (.int .i64 v))
                  clear hne1 hne2 hp0 hp1 HPXF
                  have p0 : decide ((0 : Int) ≤ v) = true := decide_eq_true hv0
                  have p1 : decide (v ≤ 4611686018427387904) = true := decide_eq_true hv1
                  clear hv0 hv1
                  go_upto_region 26 with (fail)
                  clear c0 c1 c2 f0 n0
                  generalize w5.setCell ⟨px, 0, none⟩ (.int .i64 v) = w6 at HS6 HW6 ⊢
                  have HW7 : Hid (Whole w6 px 29 (three ⟨v, (g xs (n - 1 - i)).kind, (g xs (n - 1 - i)).key⟩)) := HW6
                  clear HW6 HS5 HW5
                  obtain ⟨c0, c1, c2⟩ := three_cells HW7.out
                  go_wp2_with fail
                  refine (Put_says (x := ⟨v, (g xs (n - 1 - i)).kind, (g xs (n - 1 - i)).key⟩) HS6.out.ta HPB.out).mono ?_
                  rintro e w7 ⟨rfl, ha, hm7⟩
                  have HS7 := Lib.hid (HS6.out.putt ha hm7)
                  clear ha hm7 HS6 HPB HW7 c0 c1 c2
                  go_wp2_with fail
                  go_roundw
                  case rel => exact ⟨i + 1, _, _, rfl, by omega, HS7, HF2, HSB⟩
                  case measure => simp [intOf]; omega
                · have d6 : decide (ns.getD i 0 ≤ 4611686018427387904) = false := decide_eq_false hp1
                  have d7 : decide (0 ≤ ns.getD i 0) = true := decide_eq_true hp0
                  generalize ns.getD i 0 = v at n0 d6 d7
                  clear hp0 hp1
                  obtain ⟨Lb2, hpb, hsb⟩ := HSD.out.step HOK.out hin h32 (x := g xs (n - 1 - i)) ⟨rfl, rfl⟩ (HOK.out.may _ (by omega))
                  have HPB := Lib.hid hpb
                  have HSB := Lib.hid hsb
                  clear hpb hsb
                  go_wp2_with fail
                  refine (Put_says (x := g xs (n - 1 - i)) HS5.out.ta HPB.out).mono ?_
                  rintro e w6 ⟨rfl, ha, hm6⟩
                  have HS6 := Lib.hid (HS5.out.putt ha hm6)
                  clear ha hm6 HS5 HPB HW5 c0 c1 c2
                  go_wp2_with fail
                  go_roundw
                  case rel => exact ⟨i + 1, _, _, rfl, by omega, HS6, HF2, HSB⟩
                  case measure => simp [intOf]; omega
              · have d6 : decide (0 ≤ ns.getD i 0) = false := decide_eq_false hp0
                generalize ns.getD i 0 = v at n0 d6
                clear hp0
                obtain ⟨Lb2, hpb, hsb⟩ := HSD.out.step HOK.out hin h32 (x := g xs (n - 1 - i)) ⟨rfl, rfl⟩ (HOK.out.may _ (by omega))
                have HPB := Lib.hid hpb
                have HSB := Lib.hid hsb
                clear hpb hsb
                go_wp2_with fail
                refine (Put_says (x := g xs (n - 1 - i)) HS5.out.ta HPB.out).mono ?_
                rintro e w6 ⟨rfl, ha, hm6⟩
                have HS6 := Lib.hid (HS5.out.putt ha hm6)
                clear ha hm6 HS5 HPB HW5 c0 c1 c2
                go_wp2_with fail
                go_roundw
                case rel => exact ⟨i + 1, _, _, rfl, by omega, HS6, HF2, HSB⟩
                case measure => simp [intOf]; omega
            · have d4 : decide ((i : Int) < (m : Int)) = false := by simp; omega
              obtain ⟨Lb2, hpb, hsb⟩ := HSD.out.step HOK.out hin h32 (x := g xs (n - 1 - i)) ⟨rfl, rfl⟩ (HOK.out.may _ (by omega))
              have HPB := Lib.hid hpb
              have HSB := Lib.hid hsb
              clear hpb hsb
              go_wp2_with fail
              refine (Put_says (x := g xs (n - 1 - i)) HS5.out.ta HPB.out).mono ?_
              rintro e w6 ⟨rfl, ha, hm6⟩
              have HS6 := Lib.hid (HS5.out.putt ha hm6)
              clear ha hm6 HS5 HPB HW5 c0 c1 c2
              go_wp2_with fail
              go_roundw
              case rel => exact ⟨i + 1, _, _, rfl, by omega, HS6, HF2, HSB⟩
              case measure => simp [intOf]; omega
          · have d2 : decide ((i : Int) < (n : Int)) = false := by simp; omega
            have hin2 : i = n := by omega
            rw [hin2] at HFS HSD
            have HTD := Lib.hid HSD.out.trd
            clear HSD hin2
            go_wp2_with fail
            go_loopw [143] (fun iv wx => ∃ (j : Nat) (Lb : List It), iv = .int .i64 (j : Int) ∧ j ≤ n ∧ Hid (Sx w wx s t La Lb) ∧ Hid (Trd xs Lb n j)) (fun iv _ => n - (intOf iv).toNat)
            case atStart => exact ⟨0, Lb, rfl, Nat.zero_le _, HS, HTD⟩
            case round =>
              obtain ⟨j, Lc, rfl, hj, HS3, HT3⟩ := hrel
              by_cases hjn : j < n
              · have hw : IntKind.i64.wrap ((j : Int) + 1) = (j : Int) + 1 := IntWalk.i64_in _ (by omega)
                have d4 : (j : Int) < (n : Int) := by omega
                have d5 : (0 : Int) ≤ (j : Int) := by omega
                obtain ⟨b, o, hA, hb, i0, i1, i2⟩ := (HPW.out.below HS3.out.below).at (k := j) (by rw [HN.out]; exact hjn)
                subst hA
                obtain ⟨Ld, hpd, htd⟩ := HT3.out.step HOK.out hjn
                have HPD := Lib.hid hpd
                have HTD4 := Lib.hid htd
                clear hpd htd
                go_wp2_with fail
                refine (Put_says (x := g xs j) HS3.out.ta HPD.out).mono ?_
                rintro e w4 ⟨rfl, ha, hm4⟩
                have HS4 := Lib.hid (HS3.out.putt ha hm4)
                clear ha hm4 HPD HS3 i0 i1 i2 hb
                go_wp2_with fail
                go_roundw
                case rel => exact ⟨j + 1, _, rfl, by omega, HS4, HTD4⟩
                case measure => simp [intOf]; omega
              · have d4 : decide ((j : Int) < (n : Int)) = false := by simp; omega
                have hjn2 : j = n := by omega
                rw [hjn2] at HT3
                clear hjn2
                have hsame := both_same HFS.out HT3.out HS3.out.sa.good HS3.out.ta.good
                subst hsame
                have HMY := Lib.hid (HOK.out.mays HFS.out)
                have HLA := Lib.hid HFS.out.len
                clear HTD HT3
                go_wp2_with fail
                refine (List_any HS3.out.sa).mono ?_
                rintro e w4 ⟨v1, rfl, ho1, hb1⟩
                obtain ⟨A1, c1, hv1, _, _⟩ := own_shapeI ho1
                subst hv1
                have HS4 := Lib.hid (HS3.out.on hb1)
                have HI1 := Lib.hid (ItsAt.own ho1)
                rw [HLA.out]
                clear ho1 hb1 HS3
                go_wp2_with fail
                refine (List_any HS4.out.ta).mono ?_
                rintro e w5 ⟨v2, rfl, ho2, hb2⟩
                obtain ⟨A2, c2, hv2, _, _⟩ := own_shapeI ho2
                subst hv2
                have HS5 := Lib.hid (HS4.out.on hb2)
                have HI2 := Lib.hid (ItsAt.own ho2)
                have HI3 := Lib.hid (HI1.out.below hb2)
                rw [HLA.out]
                clear ho2 hb2 HS4 HI1
                go_wp2_with fail
                refine (RSame HI3.out HI2.out HLA.out HLA.out (by omega)).mono ?_
                rintro e w6 ⟨he, hb6⟩
                have he2 : e = .returned (.bool true) := by rw [he, decide_eq_true rfl]
                subst he2
                have HS6 := Lib.hid (HS5.out.on hb6)
                clear he hb6 HI3 HI2 HS5
                go_wp2_with fail
                go_loopw [171] (fun iv wx => ∃ q : Nat, iv = .int .i64 (q : Int) ∧ q ≤ n ∧ Hid (Sx w wx s t (La.drop q) (La.drop q))) (fun iv _ => n - (intOf iv).toNat)
                case atStart => exact ⟨0, rfl, Nat.zero_le _, HS6⟩
                case round =>
                  obtain ⟨q, rfl, hq, HS7⟩ := hrel
                  by_cases hqn : q < n
                  · have hw : IntKind.i64.wrap ((q : Int) + 1) = (q : Int) + 1 := IntWalk.i64_in _ (by omega)
                    have d6 : decide ((q : Int) < (n : Int)) = true := by simp; omega
                    have hld := drop_cons (L := La) (i := q) (by rw [HLA.out]; exact hqn)
                    rw [hld] at HS7
                    clear hld
                    have HTK := Lib.hid (tk_all (r := La.drop (q + 1)) (HMY.out (g La q) (AM.g_mem (by rw [HLA.out]; exact hqn))))
                    go_wp2_with fail
                    refine (Take_any HS7.out.sa 4611686018427387904).mono ?_
                    rintro e w8 ⟨rfl, ha, hm8⟩
                    rw [HTK.out.1] at ha
                    rw [HTK.out.2]
                    have HS8 := Lib.hid ((HS7.out.puts ha hm8).on ((Below.refl _ w8).alloc (Nat.le_refl _) (.cells (three (g La q)) 29)))
                    have HW8 := Lib.hid (Whole.new w8 29 (three (g La q)))
                    clear ha hm8 HS7
                    unfold tup agg
                    unfold three at HS8 HW8
                    go_wp2_with fail
                    generalize w8.heap.size = p8 at HW8 ⊢
                    generalize w8.alloc (.cells #[.int .i64 (g La q).due, .int .i64 (g La q).kind, .int .i64 (g La q).key] 29) = w9 at HS8 HW8 ⊢
                    have HW8' : Hid (Whole w9 p8 29 (three (g La q))) := HW8
                    clear HW8
                    refine (Take_any HS8.out.ta 4611686018427387904).mono ?_
                    rintro e w10 ⟨rfl, ha, hm10⟩
                    rw [HTK.out.1] at ha
                    rw [HTK.out.2]
                    have HS10 := Lib.hid ((HS8.out.putt ha hm10).on ((Below.refl _ w10).alloc (Nat.le_refl _) (.cells (three (g La q)) 29)))
                    have HW10 := Lib.hid (Whole.new w10 29 (three (g La q)))
                    have HW9 := Lib.hid ((Mod.of_below ((Below.refl _ w10).alloc (Nat.le_refl _) (.cells (three (g La q)) 29)) []).whole (hm10.whole HW8'.out (by simpa using HS8.out.ta.ne HW8'.out)) (by simp))
                    clear ha hm10 HS8 HW8'
                    obtain ⟨y0, y1, y2⟩ := three_cells HW9.out
                    obtain ⟨x0, x1, x2⟩ := three_cells HW10.out
                    unfold tup agg
                    unfold three at HS10 y0 y1 y2 x0 x1 x2
                    go_wp2_with fail
                    clear y0 y1 y2 x0 x1 x2 HW9 HW10
                    generalize w10.alloc (.cells #[.int .i64 (g La q).due, .int .i64 (g La q).kind, .int .i64 (g La q).key] 29) = w11 at HS10 ⊢
                    go_roundw
                    case rel => exact ⟨q + 1, rfl, by omega, HS10⟩
                    case measure => simp [intOf]; omega
                  · have d6 : decide ((q : Int) < (n : Int)) = false := by simp; omega
                    have hld : La.drop q = [] := List.drop_eq_nil_of_le (by rw [HLA.out]; omega)
                    rw [hld] at HS7
                    clear hld
                    have hz : ((([] : List It).length : Nat) : Int) = 0 := rfl
                    obtain ⟨hh, k1, k2⟩ := HS7.out.sa
                    have HL7 := Lib.hid (Len_any k1)
                    rw [hz] at HL7
                    clear k1 k2
                    go_wp2_with fail
                    refine HL7.out.mono ?_
                    rintro e w8 ⟨rfl, qq, e1⟩
                    have hb : Below wr.heap.size wr w8 := by rw [e1]; exact drewN_below wr qq
                    have HS8 := Lib.hid (HS7.out.on hb)
                    clear hb HS7 e1 HL7
                    obtain ⟨hh, k1, k2⟩ := HS8.out.ta
                    have HL8 := Lib.hid (Len_any k1)
                    rw [hz] at HL8
                    clear k1 k2 hz
                    go_wp2_with fail
                    refine HL8.out.mono ?_
                    rintro e w9 ⟨rfl, qq2, e1⟩
                    have hb : Below w8.heap.size w8 w9 := by rw [e1]; exact drewN_below w8 qq2
                    have HS9 := Lib.hid (HS8.out.on hb)
                    clear hb HS8 e1 HL8
                    go_wp2_with fail
                    go_ret
                    exact ⟨rfl, HS9.out.below⟩
  · have d0 : decide (32 < (n : Int)) = true := by simp; omega
    go_wp2_with fail
    go_ret
    exact ⟨rfl, HB1.out⟩

theorem own : ownKnob Try.prog.godebug = none := by kernel_rfl
theorem laidOut : laidOutB Try.prog = true := by kernel_rfl
set_option maxRecDepth 100000 in
theorem lifted (os : Os) (started : os.Started) (H : Type) (enc : TypeId × Value → H) :
    ReturnsInHanded {} Try.checked os 6 .any (Rows.agendaTurnedSpec.pre6 enc Try.prog Try.f6 [] false) (Rows.agendaTurnedSpec.post enc Try.prog Try.f6 false true false false) := by
  refine LK.lifted_bare (C := Try.checked) (tb := 4) own started (by kernel_rfl) Try.func6 laidOut rfl (by kernel_rfl) (by kernel_rfl) Try.underlying4
    (fun ds h => by
      match ds, h with
      | [_, _], _ => rfl)
    (ChangeSpec.witness6 (enc := enc) (C := Try.checked) false ⟨#[], #[.slice none 0 0, .slice none 0 0], []⟩ 8 (by kernel_rfl) (by kernel_rfl) (by kernel_rfl) (by kernel_rfl)) ?_
  intro W base args ds ps hval hA hwt _
  rw [show Try.f6.params.toList = [32, 52] by kernel_rfl] at hA hwt
  have hval' : ∀ (j : Nat) t v, (#[32, 52] : Array TypeId)[j]? = some t → args[j]? = some v → Value.okWide Try.prog W .any base t v := by
    rw [← Try.params6]; exact hval
  clear hval
  obtain ⟨v0, v1, d0, d1, pl0, pl1, rfl, rfl, rfl, h0, h1⟩ := trodAll_two hA
  obtain ⟨A0, c0, xs0, rfl, hP0, hc0, hm0, hl0⟩ := open_items (hval' 0 32 v0 rfl rfl) h0 hwt (j := 0) rfl rfl
  obtain ⟨A1, c1, ns1, rfl, hN1, hc1, hm1, hl1⟩ := open_nums (hval' 1 52 v1 rfl rfl) h1 hwt (j := 1) rfl rfl
  exact walk A0 c0 xs0 A1 c1 ns1 W hP0 hc0 hm0 hl0 hN1 hc1 hm1 hl1

/-- The statement. -/
theorem proved : Rows.AgendaTurnedSaid :=
  OpenClaim.holds_of_wide 6 Try.f6 rfl rfl rfl rfl rfl rfl rfl ⟨rfl, rfl, rfl, rfl, rfl⟩ rfl rfl rfl rfl rfl (by kernel_rfl) Try.func6 (by kernel_rfl)
    (of_decide_eq_true (by kernel_rfl)) (by unfold Func.isWrapper; first | (rw [if_pos (by decide +kernel)]; kernel_rfl) | (rw [if_neg (by decide +kernel)]; exact ⟨rfl, rfl⟩))
    (fun os started H enc _ => lifted os started H enc)

end Go.Proofs.Ytkgipdhbaiaaeaa.lawAgendaTurned
