/- The package's Scan: the records that stand, its panic caught. -/
import Derived.Test.YtlnahmgcjaodkaaScW7
namespace Go.Proofs.Ytlnahmgcjaodkaa
open Go.RowKit
open By
set_option linter.unusedVariables false
set_option linter.unusedSimpArgs false
set_option maxRecDepth 100000
theorem mis_neq (w : World) : Sem.run Try.prog (binOp BinOp.neq 20 misV misV) w = .ok (.bool false) w := by
  first
    | kernel_rfl
    | rfl
theorem mis_fold : Value.iface 9 (.string ⟨#[97, 32, 115, 101, 99, 116, 111, 114, 32, 116, 104, 97, 116, 32, 100, 111, 101, 115, 110, 39, 116, 32, 102, 105, 116]⟩) = misV := rfl
set_option maxHeartbeats 1000000 in
theorem caught (w : World) :
    CallsD Try.prog 32 #[] (.panicking [{ v := misV, recovered := false }]) w fun e u' w' => e = .returned (.tuple #[]) ∧ u' = .panicking [{ v := misV, recovered := true }] ∧ w' = w := by
  refine callsD_of_wpS Try.func32 rfl fun c₀ cs hu => ?_
  apply wpS_seq
  apply wpS_region
  simp [wpOpsS, go_sem, recoverD, hu, Try.ntmps32, Exit.thenS]
  apply wpS_seq
  apply wpS_region
  simp [wpOpsS, go_sem, Exit.thenS, misV]
  simp only [mis_fold, mis_neq, Result.andThen_ok]
  simp [go_sem]
  refine wpS_cond (t := false) (by simp [Act.eval, Array.replicate]) ?_
  simp only [Bool.false_eq_true, if_false]
  refine wpS_of_wp (wp_skip ?_)
  cases c₀
  simp_all [bodyPostS, results, Try.results32]
/-- The records from number s on, of any generation asked for. -/
inductive ScansI (g : Int) : Nat → List (List UInt8) → List (List UInt8) → Nat → Prop
  | stop {s : Nat} {l : List (List UInt8)} : (∀ d n, ¬ RecI l g s d n) → ScansI g s l [] 0
  | more {s : Nat} {l rs : List (List UInt8)} {d : List UInt8} {n u : Nat} : RecI l g s d n → ScansI g (s + 1) (l.drop n) rs u → ScansI g s l (d :: rs) (n + u)
theorem ScansI.uniq {g : Int} : ∀ {s : Nat} {l rs : List (List UInt8)} {u : Nat}, ScansI g s l rs u → ∀ {qs : List (List UInt8)} {v : Nat}, ScansI g s l qs v → rs = qs ∧ u = v := by
  intro s l rs u h
  induction h with
  | stop h =>
    intro qs v k
    cases k with
    | stop _ => exact ⟨rfl, rfl⟩
    | more k _ => exact absurd k (h _ _)
  | more h _ ih =>
    intro qs v k
    cases k with
    | stop k => exact absurd h (k _ _)
    | more k k2 =>
      obtain ⟨a, b, e1, e2, hr⟩ := h
      obtain ⟨a', b', e1', e2', kr⟩ := k
      have ea : a = a' := by omega
      have eb : b = b' := by omega
      subst ea eb
      obtain ⟨e3, e4⟩ := hr.uniq kr
      subst e3 e4
      obtain ⟨e5, e6⟩ := ih k2
      rw [e5, e6]
      exact ⟨rfl, rfl⟩
theorem ScansI.of {g s : Nat} {l rs : List (List UInt8)} {u : Nat} (h : SC.Scans g s l rs u) : ScansI (g : Int) s l rs u := by
  induction h with
  | stop h => exact .stop (fun d n ⟨a, b, e1, e2, hr⟩ => by
      have ea : a = _ := Int.ofNat.inj e1
      have eb : b = _ := Int.ofNat.inj e2
      subst ea eb
      exact h d n hr)
  | more h _ ih => exact .more ⟨_, _, rfl, rfl, h⟩ ih
/-- Records rs have been read off the first u sectors. -/
def Pre (g : Int) (ss rs : List (List UInt8)) (u : Nat) : Prop := u ≤ ss.length ∧ rs.length ≤ u ∧ ∀ qs v, ScansI g rs.length (ss.drop u) qs v → ScansI g 0 ss (rs ++ qs) (u + v)
theorem Pre.nil (g : Int) (ss : List (List UInt8)) : Pre g ss [] 0 := ⟨Nat.zero_le _, Nat.le_refl _, fun qs v h => by simpa using h⟩
theorem Pre.more {g : Int} {ss rs : List (List UInt8)} {u : Nat} (h : Pre g ss rs u) {d : List UInt8} {m : Nat} (hr : RecI (ss.drop u) g (rs.length : Int) d m) : Pre g ss (rs ++ [d]) (u + m) ∧ 1 ≤ m ∧ u + m ≤ ss.length ∧ rs.length + 1 ≤ ss.length := by
  obtain ⟨h1, h2, h3⟩ := h
  have hm : 1 ≤ m ∧ m ≤ (ss.drop u).length := by
    obtain ⟨_, _, _, _, k⟩ := hr
    exact ⟨k.le.1, k.le.2.1⟩
  rw [List.length_drop] at hm
  refine ⟨⟨by omega, by rw [List.length_append, List.length_singleton]; omega, fun qs v k => ?_⟩, hm.1, by omega, by omega⟩
  rw [List.length_append, List.length_singleton, ← List.drop_drop] at k
  have := h3 _ _ (.more hr k)
  rw [List.append_assoc]
  rwa [← Nat.add_assoc] at this
theorem Pre.stop {g : Int} {ss rs : List (List UInt8)} {u : Nat} (h : Pre g ss rs u) (hn : ∀ d m, ¬ RecI (ss.drop u) g (rs.length : Int) d m) : ScansI g 0 ss rs u := by
  have := h.2.2 [] 0 (.stop hn)
  simpa using this
/-- A list of lists of bytes of the call's own, all of its blocks from base on. -/
structure Lst (base : Nat) (rs : List (List UInt8)) (v : Value) (w : World) : Prop where
  ex : ∃ hs : List Value, w.ownsRow base 26 1 v rs.length hs ∧ ∀ (j : Nat) (x : List UInt8), rs[j]? = some x → ∃ v', hs[j]? = some v' ∧ w.ownsRow base 5 1 v' x.length (u8s x)
theorem Lst.nil (w : World) (base : Nat) : Lst base [] (.slice none 0 0) w := ⟨[], World.ownsRow_nil _ _ _ _, fun j x hx => by simp at hx⟩
theorem Lst.mod {base : Nat} {rs : List (List UInt8)} {v : Value} {w w' : World} {F : List Nat} (h : Lst base rs v w) (hm : Mod F w w') (hF : ∀ x ∈ F, x < base) : Lst base rs v w' := by
  obtain ⟨hs, h1, h2⟩ := h.ex
  refine ⟨hs, hm.own h1 (fun k hk hx => ?_), fun j x hx => ?_⟩
  · have := (h1.lt k hk).1
    have := hF k hx
    omega
  · obtain ⟨v', k1, k2⟩ := h2 j x hx
    refine ⟨v', k1, hm.own k2 (fun k hk hx' => ?_)⟩
    have := (k2.lt k hk).1
    have := hF k hx'
    omega
theorem Lst.below {base : Nat} {rs : List (List UInt8)} {v : Value} {w w' : World} (h : Lst base rs v w) (hb : Below w.heap.size w w') : Lst base rs v w' := h.mod (F := []) (Mod.of_below hb []) (by simp)
theorem Lst.shape {base : Nat} {rs : List (List UInt8)} {v : Value} {w : World} (h : Lst base rs v w) : ∃ A c, v = .slice A rs.length c ∧ RowsAt w A rs ∧ rs.length ≤ c ∧ c ≤ 9223372036854775807 ∧ ∀ ad, A = some ad → ad.spot = none := by
  obtain ⟨hs, h1, h2⟩ := h.ex
  obtain ⟨A, c, rfl, hc1, hc2⟩ := own_shape h1
  refine ⟨A, c, rfl, fun h0 => ?_, hc1, hc2, fun ad hA => ?_⟩
  rotate_left
  · rcases h1.2 with ⟨e, _⟩ | ⟨g, cap, cur, e, _⟩
    · have e1 : A = none := by injection e
      rw [e1] at hA
      cases hA
    · have e1 : A = some ⟨g, 0, none⟩ := by injection e
      rw [e1] at hA
      cases hA
      rfl
  obtain ⟨g, cap, hv, _, hlt⟩ := h1.form (by have := h1.1; omega)
  have hA : A = some ⟨g, 0, none⟩ := by injection hv
  subst hA
  refine ⟨g, 0, rfl, hlt, fun j x hx => ?_⟩
  obtain ⟨v', k1, k2⟩ := h2 j x hx
  obtain ⟨A', c', rfl, k3, k4⟩ := own_shape k2
  refine ⟨A', c', ?_, BytesAt.own k2, k3, k4⟩
  have := h1.cells (g := g) rfl j _ k1
  rw [Addr.add_lit] at this
  exact this
theorem own_whole {w : World} {base : Nat} {e : TypeId} {size n : Nat} {v : Value} {xs : List Value} (h : w.ownsRow base e size v n xs) {k : Nat} (hk : v.ownBlock = some k) : ∃ cs, Whole w k e cs := by
  rcases h.2 with ⟨rfl, _⟩ | ⟨g, cap, cur, rfl, _, hg, _⟩
  · cases hk
  · cases hk
    exact ⟨cur, hg⟩
theorem Lst.push {base : Nat} {rs : List (List UInt8)} {v : Value} {w : World} (hbase : base ≤ w.heap.size) {hs : List Value} (h1 : w.ownsRow base 26 1 v rs.length hs) (h2 : ∀ (j : Nat) (x : List UInt8), rs[j]? = some x → ∃ v', hs[j]? = some v' ∧ w.ownsRow base 5 1 v' x.length (u8s x))
    {W w2 : World} {v2 u : Value} {x : List UInt8} (hW : Mod [] w W) (hu : W.ownsRow base 5 1 u x.length (u8s x)) (hown : w2.ownsRow base 26 1 v2 (rs.length + 1) (hs ++ [u])) (hm : Mod v.ownBlock.toList W w2) : Lst base (rs ++ [x]) v2 w2 := by
  have hlen : hs.length = rs.length := by have := h1.1; omega
  have keep : ∀ {v' : Value} {y : List UInt8}, W.ownsRow base 5 1 v' y.length (u8s y) → w2.ownsRow base 5 1 v' y.length (u8s y) := fun hy => hm.own hy (fun k hk hx => by
    have hx : v.ownBlock = some k := by simpa using hx
    obtain ⟨c1, w1⟩ := own_whole (hW.own h1 (by simp)) hx
    obtain ⟨c2, w2'⟩ := own_whole hy hk
    exact Whole.ne w1 w2' (by decide) rfl)
  refine ⟨hs ++ [u], by rw [List.length_append]; exact hown, fun j y hy => ?_⟩
  by_cases hj : j < rs.length
  · rw [List.getElem?_append_left hj] at hy
    obtain ⟨v', k1, k2⟩ := h2 j y hy
    exact ⟨v', by rw [List.getElem?_append_left (by omega)]; exact k1, keep (hW.own k2 (by simp))⟩
  · have hjl : j = rs.length := by have := (List.getElem?_eq_some_iff.1 hy).1; rw [List.length_append, List.length_singleton] at this; omega
    subst hjl
    rw [List.getElem?_append_right (Nat.le_refl _), Nat.sub_self] at hy
    cases hy
    exact ⟨u, by rw [List.getElem?_append_right (by omega), hlen, Nat.sub_self]; rfl, keep hu⟩
theorem rowsAt_cut {w : World} {b o : Nat} {l : List (List UInt8)} (h : RowsAt w (some ⟨b, o, none⟩) l) (k : Nat) : RowsAt w (some ⟨b, o + k, none⟩) (l.drop k) := fun h0 => by
  rw [List.length_drop] at h0
  obtain ⟨b', o', e, hb, hc⟩ := h (by omega)
  cases e
  refine ⟨b, o + k, rfl, hb, fun j x hx => ?_⟩
  rw [List.getElem?_drop] at hx
  rw [Nat.add_assoc]
  exact hc (k + j) x hx
def ScanPost (w : World) (ss : List (List UInt8)) (g : Int) (e : Ending) (w' : World) : Prop :=
  ∃ rs u v, e = .returned (.tuple #[v, .int .i64 ((u : Nat) : Int)]) ∧ Hid (ScansI g 0 ss rs u) ∧ Hid (Lst w.heap.size rs v w') ∧ Hid (Below w.heap.size w w')
set_option maxHeartbeats 4000000 in
theorem Scan_some (b o : Nat) (n c : Nat) (ss : List (List UInt8)) (g : Int) (w : World) (hA : RowsAt w (some ⟨b, o, none⟩) ss) (hn : ss.length = n) (hnc : n ≤ c ∧ c ≤ 9223372036854775807) (hnb : n ≤ 5864062014805) :
    Calls Try.prog 18 #[.slice (some ⟨b, o, none⟩) n c, .int .i64 g] w (ScanPost w ss g) := by
  have hmf : ∀ (fn : Fn) (first cap : Array Value) (w : World), (Instr.makeFunc fn first cap).run Try.prog w = .ok (.func fn first cap) w := fun _ _ _ _ => rfl
  have HA := Lib.hid hA
  have HN := Lib.hid hn
  obtain ⟨hnc1, hnc2⟩ := hnc
  clear hA hn
  go_enter_defers Try.func18, Try.ntmps18
  go_wp2_with fail
  go_loopw [4, 5] (fun v i wr => ∃ (rs : List (List UInt8)) (u : Nat), i = .int .i64 (u : Int) ∧ Hid (Pre g ss rs u) ∧ Hid (Lst w.heap.size rs v wr) ∧ Hid (Below w.heap.size w wr)) (fun _ i _ => n - (intOf i).toNat)
  case atStart => exact ⟨[], 0, rfl, Lib.hid (Pre.nil g ss), Lib.hid (Lst.nil w _), Lib.hid (Below.refl _ w)⟩
  case round =>
    obtain ⟨rs, u, rfl, HP, HL, HB⟩ := hrel
    have hun : u ≤ n := by have := HP.out.1; have := HN.out; omega
    have hrs : rs.length ≤ u := HP.out.2.1
    obtain ⟨hs, h1, h2⟩ := HL.out.ex
    obtain ⟨A4, c4, rfl, hc4, hc5⟩ := own_shape h1
    have H1 := Lib.hid h1
    have H2 := Lib.hid h2
    clear h1 h2
    have hrw : w.heap.size ≤ wr.heap.size := HB.out.size
    have HRA := Lib.hid (HA.out.below HB.out)
    have HKL := Lib.hid (show (ss.drop u).length = n - u by rw [List.length_drop, HN.out])
    have HREC := Lib.hid (show ∀ (A : Option Addr) (c' : Nat), RowsAt wr A (ss.drop u) → n - u ≤ c' → c' ≤ c → Calls Try.prog 33 #[.slice A (n - u) c', .int .i64 g, .int .i64 (rs.length : Int)] wr (RecPost wr (ss.drop u) g (rs.length : Int)) from
      fun A c' h k1 k2 => record_any A (n - u) c' (ss.drop u) g (rs.length : Int) wr h HKL.out ⟨k1, by omega⟩)
    have HNIL : n - u = 0 → ∀ A, RowsAt wr A (ss.drop u) := fun h A h0 => absurd h0 (by rw [HKL.out]; omega)
    have HNIL' := Lib.hid HNIL
    clear HNIL
    go_wp2_with fail
    case inl =>
      go_at_call 33
      with_reducible refine (HREC.out (some ⟨b, o, none⟩) 0 (HNIL'.out (by omega) _) (by omega) (by omega)).mono ?_
      rintro e w5 ⟨HB5, ⟨d, m, v5, HR5, rfl, HO5⟩ | ⟨HN5, rfl⟩⟩
      · exfalso
        have h1 := (HP.out.more HR5.out).2
        have := HN.out
        omega
      · have HSC := Lib.hid (HP.out.stop HN5.out)
        have HLF := Lib.hid (HL.out.below HB5.out)
        have HBF := Lib.hid (below_on2 HB.out (.inl hrw) HB5.out)
        refine leaves_cons (f := 32) (args := #[]) (by simp) (by simp [go_sem]) ?_
        refine (caught w5).mono ?_
        rintro e u' w'' ⟨rfl, rfl, rfl⟩
        simp [Leaves, settle, results, Try.results18, go_sem]
        exact ⟨rs, u, _, rfl, HSC, HLF, HBF⟩
    case inr =>
      go_at_call 33
      with_reducible refine (HREC.out (some ⟨b, o + u, none⟩) (c - u) (rowsAt_cut HRA.out u) (by omega) (by omega)).mono ?_
      rintro e w5 ⟨HB5, ⟨d, m, v5, HR5, rfl, HO5⟩ | ⟨HN5, rfl⟩⟩
      · have HPM := Lib.hid (HP.out.more HR5.out)
        have hm1 : 1 ≤ m := HPM.out.2.1
        have hum : u + m ≤ n := by have := HPM.out.2.2.1; have := HN.out; omega
        have HM1 := Lib.hid ((Mod.of_below HB5.out []).alloc (.cells #[v5] 26))
        have HOW := Lib.hid (HM1.out.own H1.out (by simp))
        have h51 : w.heap.size ≤ w5.heap.size := Nat.le_trans hrw HB5.out.size
        have HOV := Lib.hid (((Mod.refl [] w5).alloc (.cells #[v5] 26)).own (own_base (b := w.heap.size) HO5.out hrw) (by simp))
        obtain ⟨A5, c5, rfl, _, _⟩ := own_shape HO5.out
        have HLL := Lib.hid (show (rs.length + 1) * 24 ≤ 140737488355328 by have := HPM.out.2.2.2; have := HN.out; omega)
        have HW5 := Lib.hid (Whole.new w5 26 #[Value.slice A5 d.length c5])
        have HSZ := Lib.hid (show w.heap.size ≤ (w5.alloc (.cells #[Value.slice A5 d.length c5] 26)).heap.size by simp; omega)
        go_wp2_with (at_builtin; refine list_app_hdr rfl (.tmp 18) (.tmp 20) rfl w.heap.size (.slice A4 rs.length c4) rs.length hs HOW.out w5.heap.size (.slice A5 d.length c5) rfl HW5.out HLL.out HSZ.out rfl rfl ?_; intro v6 w6 k1 k2; have K1 := Lib.hid k1; have K2 := Lib.hid k2; clear k1 k2)
        have HLF := Lib.hid (Lst.push (base := w.heap.size) hrw H1.out H2.out HM1.out HOV.out K1.out K2.out)
        have HBF := Lib.hid (HB.out.trans (((HM1.out.mono (G := (Value.slice A4 rs.length c4).ownBlock.toList) (by simp)).trans K2.out (fun x hx => .inl hx)).below hrw (fun x hx => (H1.out.lt x (by simpa using hx)).1)))
        go_roundw
        case rel => exact ⟨_, u + m, by go_num, HPM.out.1 |> Lib.hid, HLF, HBF⟩
        case measure => simp only [intOf]; go_num
      · have HSC := Lib.hid (HP.out.stop HN5.out)
        have HLF := Lib.hid (HL.out.below HB5.out)
        have HBF := Lib.hid (below_on2 HB.out (.inl hrw) HB5.out)
        refine leaves_cons (f := 32) (args := #[]) (by simp) (by simp [go_sem]) ?_
        refine (caught w5).mono ?_
        rintro e u' w'' ⟨rfl, rfl, rfl⟩
        simp [Leaves, settle, results, Try.results18, go_sem]
        exact ⟨rs, u, _, rfl, HSC, HLF, HBF⟩
set_option maxHeartbeats 2000000 in
theorem Scan_nil (A : Option Addr) (c : Nat) (g : Int) (w : World) (hc : c ≤ 9223372036854775807) :
    Calls Try.prog 18 #[.slice A 0 c, .int .i64 g] w (ScanPost w [] g) := by
  have hmf : ∀ (fn : Fn) (first cap : Array Value) (w : World), (Instr.makeFunc fn first cap).run Try.prog w = .ok (.func fn first cap) w := fun _ _ _ _ => rfl
  have HREC := Lib.hid (show ∀ (A' : Option Addr) (c' : Nat), c' ≤ c → Calls Try.prog 33 #[.slice A' 0 c', .int .i64 g, .int .i64 0] w (RecPost w [] g 0) from fun A' c' h => record_any A' 0 c' [] g 0 w (fun h0 => absurd h0 (by simp)) rfl ⟨Nat.zero_le _, by omega⟩)
  go_enter_defers Try.func18, Try.ntmps18
  go_wp2_with fail
  go_loopw [4, 5] (fun v i wr => v = .slice none 0 0 ∧ i = .int .i64 0 ∧ Hid (wr = w)) (fun _ _ _ => 0)
  case atStart => exact ⟨rfl, rfl, Lib.hid rfl⟩
  case round =>
    obtain ⟨rfl, rfl, hw⟩ := hrel
    have hw := hw.out
    subst hw
    go_wp2_with fail
    all_goals
      go_at_call 33
      refine (HREC.out _ _ (by omega)).mono ?_
      rintro e w5 ⟨HB5, ⟨d, m, v5, HR5, rfl, HO5⟩ | ⟨HN5, rfl⟩⟩
      · exfalso
        obtain ⟨_, _, _, _, k⟩ := HR5.out
        have := k.le.1
        have := k.le.2.1
        simp at this
        omega
      · refine leaves_cons (f := 32) (args := #[]) (by simp) (by simp [go_sem]) ?_
        refine (caught w5).mono ?_
        rintro e u' w'' ⟨rfl, rfl, rfl⟩
        simp [Leaves, settle, results, Try.results18, go_sem]
        exact ⟨[], 0, _, rfl, Lib.hid (.stop HN5.out), Lib.hid (Lst.nil _ _), HB5⟩
theorem Scan_any (A : Option Addr) (n c : Nat) (ss : List (List UInt8)) (g : Int) (w : World) (hA : RowsAt w A ss) (hn : ss.length = n) (hnc : n ≤ c ∧ c ≤ 9223372036854775807) (hnb : n ≤ 5864062014805) :
    Calls Try.prog 18 #[.slice A n c, .int .i64 g] w (ScanPost w ss g) := by
  cases ss with
  | nil =>
    have : n = 0 := by simpa using hn.symm
    subst this
    exact Scan_nil A c g w hnc.2
  | cons x r =>
    obtain ⟨b, o, e, _⟩ := hA (by simp)
    subst e
    exact Scan_some b o n c (x :: r) g w hA hn hnc hnb
end Go.Proofs.Ytlnahmgcjaodkaa
