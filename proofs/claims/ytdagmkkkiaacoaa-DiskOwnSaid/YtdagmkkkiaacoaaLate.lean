/- A region that draws its order, with stores at its end that break what its loads lean on: what the loads lean on is asked behind each operation but those ('late'); a load may be taken first if all late ones wait for it. -/
import Derived.Test.YtdagmkkkiaacoaaMem
import Derived.Deep.RegionHeld3
namespace Go.Proofs.Ytdagmkkkiaacoaa
open Go.RowKit
set_option linter.unusedVariables false
section
variable {P : Program} {ops : Array Oper} {Q : Exit → Act → World → Prop} {md : Region.Mode} {S : World → Prop} {late : List Nat}
/-- Whatever comes up: the post at the end, and S behind all but the late ones. -/
def AnyL (P : Program) (md : Region.Mode) (ops : Array Oper) (Q : Exit → Act → World → Prop) (S : World → Prop) (late : List Nat) : Nat → Array Bool → Act → World → Prop
  | 0, b, a, w => Region.ready md ops b = [] ∧ Q .normal a w
  | m + 1, b, a, w => (Region.ready md ops b = [] → Q .normal a w) ∧ ∀ i ∈ Region.ready md ops b, wpOp P ops Q i (fun a' w' => (i ∉ late → S w → S w') ∧ AnyL P md ops Q S late m (b.setIfInBounds i true) a' w') a w
theorem AnyL.any : ∀ (n : Nat) (b : Array Bool) (a : Act) (w : World), AnyL P md ops Q S late n b a w → wpAny P md ops Q n b a w := by
  intro n
  induction n with
  | zero => intro b a w h; exact h
  | succ n ih => intro b a w h; exact ⟨h.1, fun i hi => wpOp_mono (fun a' w' k => ih _ a' w' k.2) (h.2 i hi)⟩
/-- All late ones wait for i. -/
def waits (md : Region.Mode) (ops : Array Oper) (late : List Nat) (i : Nat) : Bool :=
  late.all fun j => match ops[j]? with | some o => o.after.toList.any fun e => Region.binds md e && e.on == i | none => false
theorem waits_spec {i : Nat} (h : waits md ops late i = true) {b : Array Bool} (hi : i ∈ Region.ready md ops b) {j : Nat} (hj : j ∈ Region.ready md ops b) : j ∉ late := by
  intro hl
  have h1 := List.all_eq_true.1 h j hl
  obtain ⟨_, o, ho, hall⟩ := mem_ready.1 hj
  rw [ho] at h1
  obtain ⟨e, he, hb⟩ := List.any_eq_true.1 h1
  rw [Bool.and_eq_true, beq_iff_eq] at hb
  have h2 := hall e (Array.mem_toList_iff.1 he) hb.1
  rw [hb.2] at h2
  have h3 := (mem_ready.1 hi).1
  rw [Array.getD_eq_getD_getElem?] at h2 h3
  cases e : b[i]? with
  | none => rw [e] at h2; cases h2
  | some x => rw [e] at h2 h3; simp at h2 h3; rw [h2] at h3; cases h3
/-- Number i, that may come up, is taken first: T is what its value leans on. -/
theorem AnyL.first {T : World → Prop} {i : Nat} {oi : Oper} {v : Value} (hi : ops[i]? = some oi) (hsel : ∀ (j : Nat) (o : Oper) cs b, ops[j]? = some o → o.op ≠ .select cs b)
    (hQ : ∀ c a w, Q (.panic c) (a.put oi.dst v) w → Q (.panic c) a w) (hT : (∀ w, T w) ∨ ((∀ w, S w → T w) ∧ waits md ops late i = true)) :
    ∀ (n : Nat) (b : Array Bool) (a : Act) (w : World), (∀ j oj, ops[j]? = some oj → j ≠ i → b.getD j true = false → (∀ e ∈ oj.after, Region.binds md e = true → e.on ≠ i) → oi.apart ops oj = true) →
      i ∈ Region.ready md ops b → YieldsIf P ops T oi v a → ((∀ w, T w) ∨ S w) → AnyL P md ops Q S late n (b.setIfInBounds i true) (a.put oi.dst v) w → AnyL P md ops Q S late (n + 1) b a w := by
  intro n
  induction n with
  | zero =>
    intro b a w _ hr hy hS H
    refine ⟨fun h => (by rw [h] at hr; cases hr), fun j hj => ?_⟩
    by_cases hji : j = i
    · subst hji
      exact hy.wpOp hi (hS.elim (fun h => h w) (fun h => hT.elim (fun k => k w) (fun k => k.1 w h))) ⟨fun _ h => h, H⟩
    · have h0 := ready_mono hj hji
      rw [H.1] at h0
      cases h0
  | succ n ih =>
    intro b a w hf hr hy hS H
    refine ⟨fun h => (by rw [h] at hr; cases hr), fun j hj => ?_⟩
    by_cases hji : j = i
    · subst hji
      exact hy.wpOp hi (hS.elim (fun h => h w) (fun h => hT.elim (fun k => k w) (fun k => k.1 w h))) ⟨fun _ h => h, H⟩
    · obtain ⟨hjun, oj, hoj, hall⟩ := mem_ready.1 hj
      have hun := (mem_ready.1 hr).1
      have hno : ∀ e ∈ oj.after, Region.binds md e = true → e.on ≠ i := fun e he hb heq => by
        have h1 := hall e he hb
        rw [heq] at h1
        rw [Array.getD_eq_getD_getElem?] at h1 hun
        cases hx : b[i]? with
        | none => rw [hx] at h1; cases h1
        | some x => rw [hx] at h1 hun; simp at h1 hun; rw [hun] at h1; cases h1
      refine wpOp_mono (fun a' w' k => ?_) (wpOp_putIf hoj (hf j oj hoj hji hjun hno) (fun cs c => hsel i oi cs c hi) (fun cs c => hsel j oj cs c hoj) hQ hy (H.2 j (ready_mono hj hji)))
      obtain ⟨k1, k2, k3⟩ := k
      refine ⟨k2, ih _ a' w' (fun q oq hq hqi hu hn => hf q oq hq hqi ?_ hn) (ready_mono hr (Ne.symm hji)) k1 ?_ ?_⟩
      · by_cases hjq : j = q
        · subst hjq; exact hjun
        · rwa [getD_set_ne true hjq] at hu
      · rcases hT with h | ⟨h, hw⟩
        · exact .inl h
        · rcases hS with h' | h'
          · exact .inl h'
          · exact .inr (k2 (waits_spec hw hr hj) h')
      · rw [Array.setIfInBounds_comm _ _ hji]
        exact k3
/-- An operation that yields its value in whatever world. -/
theorem AnyL.pure {i : Nat} {oi : Oper} {v : Value} {n : Nat} {b : Array Bool} {a : Act} {w : World} (hi : ops[i]? = some oi) (hs : Region.noSelect ops = true) (hf : Region.free md ops b i = true) (hr : (Region.ready md ops b).contains i = true)
    (hQ : ∀ c a w, Q (.panic c) (a.put oi.dst v) w → Q (.panic c) a w) (hy : YieldsIf P ops (fun _ => True) oi v a) (h : AnyL P md ops Q S late n (b.setIfInBounds i true) (a.put oi.dst v) w) : AnyL P md ops Q S late (n + 1) b a w :=
  AnyL.first hi (Region.noSelect_spec hs) hQ (.inl fun _ => trivial) n b a w (Region.free_spec hi hf) (by simpa using hr) hy (.inl fun _ => trivial) h
/-- A load. -/
theorem AnyL.load {i : Nat} {oi : Oper} {v : Value} {n : Nat} {b : Array Bool} {a : Act} {w : World} (hi : ops[i]? = some oi) (hs : Region.noSelect ops = true) (hf : Region.free md ops b i = true) (hr : (Region.ready md ops b).contains i = true) (hl : waits md ops late i = true)
    (hQ : ∀ c a w, Q (.panic c) (a.put oi.dst v) w → Q (.panic c) a w) (hy : YieldsIf P ops S oi v a) (hS : S w) (h : AnyL P md ops Q S late n (b.setIfInBounds i true) (a.put oi.dst v) w) : AnyL P md ops Q S late (n + 1) b a w :=
  AnyL.first hi (Region.noSelect_spec hs) hQ (.inr ⟨fun _ h => h, hl⟩) n b a w (Region.free_spec hi hf) (by simpa using hr) hy (.inr hS) h
theorem AnyL.done {b : Array Bool} {a : Act} {w : World} (hr : Region.ready md ops b = []) (h : Q .normal a w) : ∀ n, AnyL P md ops Q S late n b a w
  | 0 => ⟨hr, h⟩
  | _ + 1 => ⟨fun _ => h, by rw [hr]; simp⟩
def AllL (P : Program) (md : Region.Mode) (ops : Array Oper) (Q : Exit → Act → World → Prop) (S : World → Prop) (late : List Nat) (n : Nat) (b : Array Bool) (a : Act) (w : World) (rs : List Nat) : Prop :=
  ∀ i ∈ rs, wpOp P ops Q i (fun a' w' => (i ∉ late → S w → S w') ∧ AnyL P md ops Q S late n (b.setIfInBounds i true) a' w') a w
theorem AllL.nil {n : Nat} {b : Array Bool} {a : Act} {w : World} : AllL P md ops Q S late n b a w [] := fun _ h => by cases h
theorem AllL.cons {n : Nat} {b : Array Bool} {a : Act} {w : World} {i : Nat} {o : Oper} {rs : List Nat} (ho : ops[i]? = some o)
    (h : ∀ K : Act → World → Prop, Shut (∀ a' w', (i ∉ late → S w') → AnyL P md ops Q S late n (b.setIfInBounds i true) a' w' → K a' w') → if Region.wanted o (yielded ops a.tmps) = true then Oper.wp P o a w K Q else K (a.put o.dst undef) w)
    (hs : AllL P md ops Q S late n b a w rs) : AllL P md ops Q S late n b a w (i :: rs) := fun j hj => by
  rcases List.mem_cons.1 hj with rfl | hj
  · exact wpOp_step ho fun K hK => h K fun a' w' k1 k2 => hK a' w' ⟨fun hl _ => k1 hl, k2⟩
  · exact hs j hj
theorem AnyL.ready {rs : List Nat} {n : Nat} {b : Array Bool} {a : Act} {w : World} (hr : Region.ready md ops b = rs) (hne : rs ≠ []) (h : AllL P md ops Q S late n b a w rs) : AnyL P md ops Q S late (n + 1) b a w :=
  ⟨fun h0 => absurd (hr ▸ h0) hne, hr ▸ h⟩
theorem region_late {id : Nat} {a : Act} {w : World} (S : World → Prop) (late : List Nat) (hm : P.follows .mixedOrders = true) (h : AnyL P .any ops Q S late ops.size (Array.replicate ops.size false) a w.drew) : (Code.region id ops true).wp P Q a w :=
  wp_region_any hm (AnyL.any _ _ _ _ h)
end
end Go.Proofs.Ytdagmkkkiaacoaa
