/- Texts that belong together: Vals, Evals, Grow, RdBlk. -/
import Derived.Test.YtboflkadabagfabEach
import Derived.Test.YtboflkadabagfabBytes
import Derived.Test.YtboflkadabagfabInts
import Derived.Deep.RegionHeld3
import Derived.Test.YtboflkadabagfabOctetsW7
namespace Go.Proofs.Ytboflkadabagfab
open Go.RowKit
set_option linter.unusedVariables false
section
variable {P : Program} {ops : Array Oper} {Q : Exit → Act → World → Prop}
/-- Each operation has the value that the list says. -/
def valued (L : List Value) : Nat → (Nat → Value) → World → Prop := fun j us _ => us j = L.getD j undef
theorem valued_leans (L : List Value) (ls : List (List Nat)) : Leans (valued L) ls := fun j us us' w h hF => by
  unfold valued at *
  rw [← h j (.inl rfl)]
  exact hF
/-- These values, in the temporaries from d on. -/
def ch (a : Act) (vs : Nat → Value) (d : Nat) : List Nat → Act
  | [] => a
  | j :: r => (ch a vs d r).put (some (d + j)) (vs j)
/-- These values, in these temporaries. -/
def cq (a : Act) (vs : Nat → Value) : List (Nat × Nat) → Act
  | [] => a
  | j :: r => (cq a vs r).put (some j.1) (vs j.2)
/-- The same in the order of the text. -/
theorem each_seq {F : Nat → (Nat → Value) → World → Prop} {I J : World → Prop} {late : List Nat} {ls : List (List Nat)} {a : Act} (hcg : Leans F ls) (hok : EachOk ops ls a.tmps.size) (hst : ∀ i, i < ops.size → ∃ o, ops[i]? = some o ∧ EachAt P ops Q F I J late ls (fun vs => puts ops vs a (ls.getD i [])) i o (ls.getD i []))
    (hend : ∀ vs w, I w → (∀ j, j < ops.size → F j vs w) → Q .normal (allPut ops vs a ops.size) w) :
    ∀ (n k : Nat) (b : Array Bool) (vs : Nat → Value) (B : Act) (w : World), EachSt ops F I J late ls a b vs B w → (∀ j, b.getD j false = (decide (j < k) && decide (j < ops.size))) → k + n = ops.size → wpOps P ops (NoPanic Q) (List.range' k n) B w
  | 0, k, b, vs, B, w, h, hb, hk => by
    refine (each_any hcg hok hst hend 0 b vs B w h ?_).2
    refine Nat.le_of_eq (List.countP_eq_zero.2 fun x hx => ?_)
    obtain ⟨j, hj, rfl⟩ := List.mem_iff_getElem.1 hx
    have h1 := hb j
    have hjs : j < ops.size := by have := h.bsize; simp at hj; omega
    rw [Array.getD_eq_getD_getElem?, Array.getElem?_eq_getElem (by simpa using hj)] at h1
    simp only [show j < k by omega, hjs, decide_true, Bool.and_self, Option.getD_some] at h1
    simp [h1]
  | n + 1, k, b, vs, B, w, h, hb, hk => by
    have hks : k < ops.size := by omega
    have hkb : k < b.size := by rw [h.bsize]; exact hks
    have hbk : b.getD k false = false := by rw [hb]; simp
    rw [List.range'_succ, wpOps_cons]
    refine wpOp_mono (fun a' w' hh => ?_) (each_step hcg hok hst h (mem_ready.2 ⟨?_, ops[k], Array.getElem?_eq_getElem hks, fun e he hbd => ?_⟩))
    · obtain ⟨vs', h'⟩ := hh
      refine each_seq hcg hok hst hend n (k + 1) _ vs' a' w' h' (fun j => ?_) (by omega)
      rw [getD_set hkb]
      by_cases hj : k = j
      · subst hj
        simp [hks]
      · rw [if_neg hj, hb]
        have : (j < k ↔ j < k + 1) := by omega
        simp only [this]
    · rw [Array.getD_eq_getD_getElem?, Array.getElem?_eq_getElem hkb] at hbk ⊢
      exact hbk
    · have h1 := hok.after k _ (Array.getElem?_eq_getElem hks) e he hbd
      have h2 := hok.low k hks e.on h1
      rw [hb]
      simp; omega
theorem region_seq {id : Nat} {a : Act} {w : World} (F : Nat → (Nat → Value) → World → Prop) (I J : World → Prop) (late : List Nat) (ls : List (List Nat)) (hcg : Leans F ls) {n : Nat} (hn : a.tmps.size = n) (hok : eachOk ops ls n = true) (h0 : I w) (hj0 : J w)
    {Z : (Nat → Value) → Act} (hZ : ∀ vs, allPut ops vs a ops.size = Z vs) (hst : EachAll P ops Q F I J late ls a ops.size) (hend : ∀ vs w, I w → (∀ j, j < ops.size → F j vs w) → Box (Q .normal (Z vs) w)) : (Code.region id ops false).wp P Q a w := by
  subst hn
  refine wp_region_noPanic (wp_region ?_)
  rw [List.range_eq_range']
  refine each_seq hcg (eachOk_spec hok) hst.get (fun vs w h1 h2 => by rw [hZ]; exact (hend vs w h1 h2).out) ops.size 0 (Array.replicate ops.size false) (fun _ => undef) a w ⟨by simp, rfl, rfl, ?_, fun _ _ => rfl, ?_, h0, fun _ => hj0, ?_⟩ (fun j => ?_) (by omega)
  · intro i hi hb
    rw [Array.getD_eq_getD_getElem?, Array.getElem?_replicate, if_pos hi] at hb
    cases hb
  · intro j t hb hj
    rw [Array.getD_eq_getD_getElem?, Array.getElem?_replicate, if_pos (dst_lt hj)] at hb
    cases hb
  · intro j hj hb
    rw [Array.getD_eq_getD_getElem?, Array.getElem?_replicate, if_pos hj] at hb
    cases hb
  · rw [Array.getD_eq_getD_getElem?, Array.getElem?_replicate]
    simp
    split <;> rfl
/-- Is a guard's operation one of those waited for, with a slot of its own? -/
def guardOk (ops : Array Oper) (ls : List (List Nat)) : Bool :=
  (List.range ops.size).all fun i => match ops[i]? with
    | none => true
    | some o => match o.guard with
      | none => true
      | some (g, _) => (ls.getD i []).contains g && (dstOf ops g).isSome
/-- The slots that the operations write, as a list. -/
def dsOk (ops : Array Oper) (ds : List (Option Nat)) : Bool := (List.range ops.size).all fun j => dstOf ops j == ds.getD j none
theorem dsOk.at_ {ds : List (Option Nat)} (h : dsOk ops ds = true) {j t : Nat} (hj : dstOf ops j = some t) : ds.getD j none = some t := by
  have h1 := List.all_eq_true.1 h j (List.mem_range.2 (dst_lt hj))
  rw [hj] at h1
  exact (by simpa using h1 : some t = _).symm
theorem dsOk.has {ds : List (Option Nat)} (h : dsOk ops ds = true) {j t : Nat} (hj : j < ops.size) (hd : ds.getD j none = some t) : dstOf ops j = some t := by
  have h1 := List.all_eq_true.1 h j (List.mem_range.2 hj)
  rw [hd] at h1
  simpa using h1
theorem dsOk.mem {ds : List (Option Nat)} (h : dsOk ops ds = true) {j t : Nat} (hj : dstOf ops j = some t) : ds.contains (some t) = true := by
  have h1 := dsOk.at_ h hj
  rw [List.getD_eq_getElem?_getD] at h1
  cases hg : ds[j]? with
  | none => rw [hg] at h1; cases h1
  | some x =>
    rw [hg] at h1
    have e : x = some t := h1
    subst e
    exact List.contains_iff_mem.2 (List.mem_of_getElem? hg)
/-- What is found in the slots, behind these operations. -/
structure Look (ds : List (Option Nat)) (L : List Value) (l : List Nat) (a B : Act) : Prop where
  at_ : ∀ j ∈ l, ∀ t, ds.getD j none = some t → B.tmps[t]? = some (L.getD j undef)
  out : ∀ t, ds.contains (some t) = false → B.tmps[t]? = a.tmps[t]?
def Want (L : List Value) (o : Oper) (X : Prop) : Prop := match o.guard with
  | none => X
  | some (g, p) => L.getD g undef = .bool p → X
def Idle (L : List Value) (i : Nat) (o : Oper) : Prop := match o.guard with
  | none => True
  | some (g, p) => L.getD g undef ≠ .bool p → L.getD i undef = undef
theorem idle_t {e : Bool} {x : Value} : Value.bool e ≠ .bool true → cond e x undef = undef := by
  cases e <;> intro h
  · rfl
  · exact absurd rfl h
theorem idle_f {e : Bool} {x : Value} : Value.bool e ≠ .bool false → cond e undef x = undef := by
  cases e <;> intro h
  · exact absurd rfl h
  · rfl
theorem idle_in_t {e p : Bool} {g x : Value} (h : g ≠ .bool p → x = undef) : cond e g undef ≠ .bool p → cond e x undef = undef := by
  cases e
  · intro _; rfl
  · exact h
theorem idle_in_f {e p : Bool} {g x : Value} (h : g ≠ .bool p → x = undef) : cond e undef g ≠ .bool p → cond e undef x = undef := by
  cases e
  · exact h
  · intro _; rfl
theorem want_t {e p : Bool} {g : Value} (h : cond e g undef = .bool p) : e = true ∧ g = .bool p := by
  cases e
  · cases h
  · exact ⟨rfl, h⟩
theorem want_f {e p : Bool} {g : Value} (h : cond e undef g = .bool p) : e = false ∧ g = .bool p := by
  cases e
  · exact ⟨rfl, h⟩
  · cases h
theorem want_b {e p : Bool} (h : Value.bool e = .bool p) : e = p := by injection h
/-- Number i comes up, if it is wanted, those that it waits for being behind it. -/
def VStep (P : Program) (ds : List (Option Nat)) (L : List Value) (I : World → Prop) (a : Act) (i : Nat) (o : Oper) (l : List Nat) : Prop :=
  ∀ (B : Act) (w : World), I w → Look ds L l a B → Want L o (∀ (K : Act → World → Prop) (E : Exit → Act → World → Prop), Box (∀ v w', I w' → v = L.getD i undef → K (B.put o.dst v) w') → Box (Oper.wp P o B w K E))
inductive VAll (P : Program) (ops : Array Oper) (ds : List (Option Nat)) (L : List Value) (I : World → Prop) (ls : List (List Nat)) (a : Act) : Nat → Prop
  | nil : VAll P ops ds L I ls a 0
  | snoc {i : Nat} {o : Oper} {l : List Nat} : VAll P ops ds L I ls a i → ops[i]? = some o → ls[i]? = some l → Idle L i o → VStep P ds L I a i o l → VAll P ops ds L I ls a (i + 1)
theorem VAll.each {L : List Value} {I : World → Prop} {ls : List (List Nat)} {a : Act} (hok : EachOk ops ls a.tmps.size) (hgd : guardOk ops ls = true) {ds : List (Option Nat)} (hds : dsOk ops ds = true) {n : Nat} (h : VAll P ops ds L I ls a n) : EachAll P ops Q (valued L) I (fun _ => True) [] ls a n := by
  induction h with
  | nil => exact .nil
  | @snoc i o l hk ho hl hid he ih =>
    have hli : ls.getD i [] = l := by rw [List.getD_eq_getElem?_getD, hl]; rfl
    have hlk : ∀ vs : Nat → Value, (∀ j ∈ l, vs j = L.getD j undef) → Look ds L l a (puts ops vs a l) := fun vs hF =>
      ⟨fun j hj t ht => by
          have ht := dsOk.has hds (Nat.lt_trans (hok.low i (Array.getElem?_eq_some_iff.1 ho).1 j (by rw [hli]; exact hj)) (Array.getElem?_eq_some_iff.1 ho).1) ht
          rw [puts_eq vs a ht (hok.size j t ht) (fun k hk => hok.one j k t ht hk) hj, hF j hj],
        fun t ht => puts_ne vs a fun j _ hd => by
          rw [dsOk.mem hds hd] at ht
          cases ht⟩
    refine .snoc ih ho hl (fun _ => rfl) fun vs w hI _ hF K hK => ?_
    have hK' : Box (∀ v w', I w' → v = L.getD i undef → K ((puts ops vs a l).put o.dst v) w') := ⟨fun v w' hi hv => hK.out v w' hi (by show updv vs i v i = _; simp [updv, hv]) (fun j _ _ h => h) (fun _ _ => trivial)⟩
    have hs := he (puts ops vs a l) w hI (hlk vs hF)
    have hq := hlk vs hF
    unfold Want at hs
    unfold Idle at hid
    cases hgo : o.guard with
    | none =>
      rw [hgo] at hs
      refine ⟨?_⟩
      rw [if_pos (by simp [Region.wanted, hgo])]
      exact (hs K _ hK').out
    | some gp =>
      obtain ⟨g, p⟩ := gp
      rw [hgo] at hs hid
      have h1 := List.all_eq_true.1 hgd i (List.mem_range.2 (Array.getElem?_eq_some_iff.1 ho).1)
      rw [ho] at h1
      simp only [hgo, Bool.and_eq_true, List.contains_iff_mem, hli] at h1
      obtain ⟨hgl, hgs⟩ := h1
      obtain ⟨t, ht⟩ := Option.isSome_iff_exists.1 hgs
      have hy : yielded ops (puts ops vs a l).tmps g = match some (L.getD g undef) with
          | some (.bool b) => some b
          | _ => none := by
        unfold yielded
        have e : (ops[g]?).bind (·.dst) = some t := ht
        rw [e, ← hq.at_ g hgl t (dsOk.at_ hds ht)]
        rfl
      refine ⟨?_⟩
      by_cases hv : L.getD g undef = .bool p
      · rw [hv] at hy
        rw [if_pos (by simp [Region.wanted, hgo, hy])]
        exact (hs hv K _ hK').out
      · have hw : Region.wanted o (yielded ops (puts ops vs a l).tmps) = false := by
          simp only [Region.wanted, hgo, hy]
          cases hL : L.getD g undef with
          | bool b =>
            rw [hL] at hv
            have : b ≠ p := fun e => hv (by rw [e])
            simp [this]
          | _ => simp
        rw [if_neg (by rw [hw]; decide)]
        exact hK'.out _ w hI (hid hv).symm
theorem region_vany {id : Nat} {a : Act} {w : World} (ds : List (Option Nat)) (L : List Value) (I : World → Prop) (ls : List (List Nat)) (hm : P.follows .mixedOrders = true) {n : Nat} (hn : a.tmps.size = n) (hok : eachOk ops ls n = true) (hgd : guardOk ops ls = true) (hds : dsOk ops ds = true) (h0 : I w.drew)
    {Z : (Nat → Value) → Act} (hZ : ∀ vs, allPut ops vs a ops.size = Z vs) (hst : VAll P ops ds L I ls a ops.size) (hend : ∀ vs w, I w → (∀ j, j < ops.size → vs j = L.getD j undef) → Box (Q .normal (Z vs) w)) : (Code.region id ops true).wp P Q a w :=
  region_each (valued L) I (fun _ => True) [] ls (valued_leans L ls) hm hn hok h0 trivial hZ (hst.each (by subst hn; exact eachOk_spec hok) hgd hds) hend
theorem region_vseq {id : Nat} {a : Act} {w : World} (ds : List (Option Nat)) (L : List Value) (I : World → Prop) (ls : List (List Nat)) {n : Nat} (hn : a.tmps.size = n) (hok : eachOk ops ls n = true) (hgd : guardOk ops ls = true) (hds : dsOk ops ds = true) (h0 : I w)
    {Z : (Nat → Value) → Act} (hZ : ∀ vs, allPut ops vs a ops.size = Z vs) (hst : VAll P ops ds L I ls a ops.size) (hend : ∀ vs w, I w → (∀ j, j < ops.size → vs j = L.getD j undef) → Box (Q .normal (Z vs) w)) : (Code.region id ops false).wp P Q a w :=
  region_seq (valued L) I (fun _ => True) [] ls (valued_leans L ls) hn hok h0 trivial hZ (hst.each (by subst hn; exact eachOk_spec hok) hgd hds) hend
end
end Go.Proofs.Ytboflkadabagfab
namespace Go.Proofs.Ytboflkadabagfab
open Go.RowKit
set_option linter.unusedVariables false
section
variable {P : Program} {ops : Array Oper} {Q : Exit → Act → World → Prop}
/- The same where what is known of a value hangs on the world or is found on the way. -/
structure LookV (ds : List (Option Nat)) (vs : Nat → Value) (l : List Nat) (a B : Act) : Prop where
  at_ : ∀ j ∈ l, ∀ t, ds.getD j none = some t → B.tmps[t]? = some (vs j)
  out : ∀ t, ds.contains (some t) = false → B.tmps[t]? = a.tmps[t]?
def WantV (vs : Nat → Value) (o : Oper) (X : Prop) : Prop := match o.guard with
  | none => X
  | some (g, p) => vs g = .bool p → X
def IdleV (F : Nat → (Nat → Value) → World → Prop) (l : List Nat) (i : Nat) (o : Oper) : Prop := match o.guard with
  | none => True
  | some (g, p) => ∀ vs w, (∀ j ∈ l, F j vs w) → vs g ≠ .bool p → F i (updv vs i undef) w
def EStep (P : Program) (ds : List (Option Nat)) (F : Nat → (Nat → Value) → World → Prop) (I J : World → Prop) (late : List Nat) (ls : List (List Nat)) (a : Act) (i : Nat) (o : Oper) (l : List Nat) : Prop :=
  ∀ (vs : Nat → Value) (B : Act) (w : World), I w → ((∀ k ∈ late, k = i ∨ i ∈ ls.getD k []) → J w) → LookV ds vs l a B → (∀ j ∈ l, F j vs w) → WantV vs o (∀ (K : Act → World → Prop) (E : Exit → Act → World → Prop),
    Box (∀ v w', I w' → F i (updv vs i v) w' → (∀ j, j ≠ i → i ∉ ls.getD j [] → F j vs w → F j vs w') → (i ∉ late → J w → J w') → K (B.put o.dst v) w') → Box (Oper.wp P o B w K E))
inductive EAll (P : Program) (ops : Array Oper) (ds : List (Option Nat)) (F : Nat → (Nat → Value) → World → Prop) (I J : World → Prop) (late : List Nat) (ls : List (List Nat)) (a : Act) : Nat → Prop
  | nil : EAll P ops ds F I J late ls a 0
  | snoc {i : Nat} {o : Oper} {l : List Nat} : EAll P ops ds F I J late ls a i → ops[i]? = some o → ls[i]? = some l → IdleV F l i o → EStep P ds F I J late ls a i o l → EAll P ops ds F I J late ls a (i + 1)
theorem EAll.each {F : Nat → (Nat → Value) → World → Prop} {I J : World → Prop} {late : List Nat} {ls : List (List Nat)} {a : Act} (hok : EachOk ops ls a.tmps.size) (hgd : guardOk ops ls = true) {ds : List (Option Nat)} (hds : dsOk ops ds = true) {n : Nat} (h : EAll P ops ds F I J late ls a n) : EachAll P ops Q F I J late ls a n := by
  induction h with
  | nil => exact .nil
  | @snoc i o l hk ho hl hid he ih =>
    have hli : ls.getD i [] = l := by rw [List.getD_eq_getElem?_getD, hl]; rfl
    have hlk : ∀ vs : Nat → Value, LookV ds vs l a (puts ops vs a l) := fun vs =>
      ⟨fun j hj t ht => by
          have ht := dsOk.has hds (Nat.lt_trans (hok.low i (Array.getElem?_eq_some_iff.1 ho).1 j (by rw [hli]; exact hj)) (Array.getElem?_eq_some_iff.1 ho).1) ht
          rw [puts_eq vs a ht (hok.size j t ht) (fun k hk => hok.one j k t ht hk) hj],
        fun t ht => puts_ne vs a fun j _ hd => by
          rw [dsOk.mem hds hd] at ht
          cases ht⟩
    refine .snoc ih ho hl (fun _ => rfl) fun vs w hI hJ hF K hK => ?_
    have hs := he vs (puts ops vs a l) w hI hJ (hlk vs) hF
    have hq := hlk vs
    unfold WantV at hs
    unfold IdleV at hid
    cases hgo : o.guard with
    | none =>
      rw [hgo] at hs
      refine ⟨?_⟩
      rw [if_pos (by simp [Region.wanted, hgo])]
      exact (hs K _ hK).out
    | some gp =>
      obtain ⟨g, p⟩ := gp
      rw [hgo] at hs hid
      have h1 := List.all_eq_true.1 hgd i (List.mem_range.2 (Array.getElem?_eq_some_iff.1 ho).1)
      rw [ho] at h1
      simp only [hgo, Bool.and_eq_true, List.contains_iff_mem, hli] at h1
      obtain ⟨hgl, hgs⟩ := h1
      obtain ⟨t, ht⟩ := Option.isSome_iff_exists.1 hgs
      have hy : yielded ops (puts ops vs a l).tmps g = match some (vs g) with
          | some (.bool b) => some b
          | _ => none := by
        unfold yielded
        have e : (ops[g]?).bind (·.dst) = some t := ht
        rw [e, ← hq.at_ g hgl t (dsOk.at_ hds ht)]
        rfl
      refine ⟨?_⟩
      by_cases hv : vs g = .bool p
      · rw [hv] at hy
        rw [if_pos (by simp [Region.wanted, hgo, hy])]
        exact (hs hv K _ hK).out
      · have hw : Region.wanted o (yielded ops (puts ops vs a l).tmps) = false := by
          simp only [Region.wanted, hgo, hy]
          cases hL : vs g with
          | bool b =>
            rw [hL] at hv
            have : b ≠ p := fun e => hv (by rw [e])
            simp [this]
          | _ => simp
        rw [if_neg (by rw [hw]; decide)]
        exact hK.out _ w hI (hid vs w hF hv) (fun _ _ _ h => h) (fun _ h => h)
theorem region_eany {id : Nat} {a : Act} {w : World} (ds : List (Option Nat)) (F : Nat → (Nat → Value) → World → Prop) (I J : World → Prop) (late : List Nat) (ls : List (List Nat)) (hcg : Leans F ls) (hm : P.follows .mixedOrders = true) {n : Nat} (hn : a.tmps.size = n) (hok : eachOk ops ls n = true) (hgd : guardOk ops ls = true) (hds : dsOk ops ds = true) (h0 : I w.drew) (hj0 : J w.drew)
    {Z : (Nat → Value) → Act} (hZ : ∀ vs, allPut ops vs a ops.size = Z vs) (hst : EAll P ops ds F I J late ls a ops.size) (hend : ∀ vs w, I w → (∀ j, j < ops.size → F j vs w) → Box (Q .normal (Z vs) w)) : (Code.region id ops true).wp P Q a w :=
  region_each F I J late ls hcg hm hn hok h0 hj0 hZ (hst.each (by subst hn; exact eachOk_spec hok) hgd hds) hend
theorem region_eseq {id : Nat} {a : Act} {w : World} (ds : List (Option Nat)) (F : Nat → (Nat → Value) → World → Prop) (I J : World → Prop) (late : List Nat) (ls : List (List Nat)) (hcg : Leans F ls) {n : Nat} (hn : a.tmps.size = n) (hok : eachOk ops ls n = true) (hgd : guardOk ops ls = true) (hds : dsOk ops ds = true) (h0 : I w) (hj0 : J w)
    {Z : (Nat → Value) → Act} (hZ : ∀ vs, allPut ops vs a ops.size = Z vs) (hst : EAll P ops ds F I J late ls a ops.size) (hend : ∀ vs w, I w → (∀ j, j < ops.size → F j vs w) → Box (Q .normal (Z vs) w)) : (Code.region id ops false).wp P Q a w :=
  region_seq F I J late ls hcg hn hok h0 hj0 hZ (hst.each (by subst hn; exact eachOk_spec hok) hgd hds) hend
end
end Go.Proofs.Ytboflkadabagfab
namespace Go.Proofs.Ytboflkadabagfab.Gw
open Go.RowKit
open By
set_option linter.unusedVariables false
set_option linter.unusedSimpArgs false
set_option maxRecDepth 100000
theorem run_app_more {W : World} {base : Nat} {v : Value} {L X : List UInt8} {A : Option Addr} {c : Nat} (ty : TypeId) (hown : W.ownsRow base 5 1 v L.length (u8s L)) (hX : BytesAt W A X) (hl : L.length + X.length ≤ 140737488355328) (hb : base ≤ W.heap.size) :
    ∃ v' w2, (Builtin.append_ #[29, 29] ty #[v, .slice A X.length c]).run Try.prog W = .ok v' w2 ∧ w2.ownsRow base 5 1 v' (L ++ X).length (u8s (L ++ X)) ∧ Mod v.ownBlock.toList W w2 ∧ (v'.ownBlock = v.ownBlock ∨ v'.ownBlock = some W.heap.size) := by
  obtain ⟨i0, hi, hz0, hz1, hz2⟩ := info_parts info_u8
  cases A with
  | some ad =>
    obtain ⟨v', w', hr, h2, h3, _, h5⟩ := run_append_own_at (P := Try.prog) W base 29 ty 5 i0 (.int .u8 0) 1 1 Try.underlying29 hi hz0 hz1 hz2 rfl (by decide) v L.length (u8s L) hown ad X.length c (u8s X) (by rw [u8s_len, Nat.mul_one]) hX.cells one_u8 (by unfold maxLen; omega) (by omega) hb
    exact ⟨v', w', hr, by rw [List.length_append, u8s_append]; exact h2, (Mod.refl _ W).grown h3 (fun k hk => .inl (by rw [hk]; simp)), h5⟩
  | none =>
    have h0 : X = [] := by
      cases X with
      | nil => rfl
      | cons y r =>
        obtain ⟨b, o, e, _⟩ := hX (by simp)
        cases e
    subst h0
    refine ⟨v, W, ?_, by simpa using hown, Mod.refl _ W, .inl rfl⟩
    rcases hown.2 with ⟨rfl, _⟩ | ⟨g, cap, cur, rfl, _, hg, hle, hcap, _⟩
    · simp [Builtin.append_, run_underlying Try.underlying29, sizeOf, typeInfo, hi, Builtin.lenOf, Builtin.firstCells, storeCells]
    · have hn : ¬ maxLen < L.length := by omega
      simp [Builtin.append_, run_underlying Try.underlying29, sizeOf, typeInfo, hi, Builtin.lenOf, Builtin.firstCells, storeCells, hle, hn]
theorem wp_app_more {W : World} {o : Oper} {a : Act} {K : Act → World → Prop} {Q : Exit → Act → World → Prop} (s x : Operand) (ho : o.op = .call { callee := .builtin .append, args := #[s, x], argTypes := #[29, 29] })
    (base : Nat) (v : Value) (L X : List UInt8) (A : Option Addr) (m c : Nat) (hown : W.ownsRow base 5 1 v L.length (u8s L)) (hX : BytesAt W A X) (hm : X.length = m) (hl : L.length + X.length ≤ 140737488355328) (hb : base ≤ W.heap.size)
    (hsv : a.eval s = v) (hxv : a.eval x = .slice A m c)
    (hK : ∀ v' w2, w2.ownsRow base 5 1 v' (L ++ X).length (u8s (L ++ X)) → Mod v.ownBlock.toList W w2 → (v'.ownBlock = v.ownBlock ∨ v'.ownBlock = some W.heap.size) → K (a.put o.dst v') w2) : o.wp Try.prog a W K Q := by
  subst hm
  obtain ⟨v', w2, hr, h2, h3, h4⟩ := run_app_more (c := c) o.type hown hX hl hb
  unfold Oper.wp execOp
  simp only [ho, resolve, invoke, builtin, Sem.run_bind, Sem.run_pure, Result.andThen_ok, List.map_toArray, List.map_cons, List.map_nil, hsv, hxv, hr]
  exact hK v' w2 h2 h3 h4
theorem app_more {W : World} {ops : Array Oper} {rest : List Oper} {o : Oper} {a : Act} {Q : Exit → Act → World → Prop} (hgd : o.guard = none) (s x : Operand) (ho : o.op = .call { callee := .builtin .append, args := #[s, x], argTypes := #[29, 29] })
    (base : Nat) (v : Value) (L X : List UInt8) (A : Option Addr) (m c : Nat) (hown : W.ownsRow base 5 1 v L.length (u8s L)) (hX : BytesAt W A X) (hm : X.length = m) (hl : L.length + X.length ≤ 140737488355328) (hb : base ≤ W.heap.size)
    (hsv : a.eval s = v) (hxv : a.eval x = .slice A m c)
    (hK : ∀ v' w2, w2.ownsRow base 5 1 v' (L ++ X).length (u8s (L ++ X)) → Mod v.ownBlock.toList W w2 → (v'.ownBlock = v.ownBlock ∨ v'.ownBlock = some W.heap.size) → wpList Try.prog ops Q rest (a.put o.dst v') w2) : wpList Try.prog ops Q (o :: rest) a W :=
  wpList_plain hgd fun _ hK' => wp_app_more s x ho base v L X A m c hown hX hm hl hb hsv hxv (fun v' w2 k1 k2 k3 => hK' _ _ (hK v' w2 k1 k2 k3))
/-- A row that the call has grown for itself, and what it left standing. -/
structure Grow (w0 : World) (L : List UInt8) (v : Value) (w : World) : Prop where
  row : w.ownsRow w0.heap.size 5 1 v L.length (u8s L)
  below : Below w0.heap.size w0 w
section
variable {w0 w : World} {L X : List UInt8} {v : Value}
theorem Grow.nil (w : World) : Grow w [] (.slice none 0 0) w := ⟨World.ownsRow_nil _ _ _ _, Below.refl _ _⟩
theorem Grow.on (h : Grow w0 L v w) {w' : World} (hb : Below w.heap.size w w') : Grow w0 L v w' :=
  ⟨(Mod.of_below hb []).own h.row (by simp), h.below.trans (hb.mono (by have := h.below.size; omega))⟩
theorem Grow.bytes (h : Grow w0 L v w) {A : Option Addr} {n c : Nat} (e : v = .slice A n c) : BytesAt w A L := by
  subst e
  obtain ⟨A', c', e, _⟩ := own_shape h.row
  cases e
  exact BytesAt.own h.row
theorem Grow.then_ (h : Grow w0 L v w) {v' : Value} {w2 : World} (k1 : w2.ownsRow w0.heap.size 5 1 v' (L ++ X).length (u8s (L ++ X))) (k2 : Mod v.ownBlock.toList w w2) : Grow w0 (L ++ X) v' w2 :=
  ⟨k1, h.below.trans (k2.below h.below.size (fun x hx => (h.row.lt x (by simpa using hx)).1))⟩
end
theorem app_grow {w0 w : World} {L X : List UInt8} {v : Value} {ops : Array Oper} {rest : List Oper} {o : Oper} {a : Act} {Q : Exit → Act → World → Prop} (hG : Grow w0 L v w) {A : Option Addr} {m c : Nat} (hX : BytesAt w A X) (hm : X.length = m) (hl : L.length + X.length ≤ 140737488355328) (hgd : o.guard = none) (s x : Operand) (ho : o.op = .call { callee := .builtin .append, args := #[s, x], argTypes := #[29, 29] })
    (hsv : a.eval s = v) (hxv : a.eval x = .slice A m c) (hK : ∀ v' w2, Hid (Grow w0 (L ++ X) v' w2) → Hid (Mod v.ownBlock.toList w w2) → wpList Try.prog ops Q rest (a.put o.dst v') w2) : wpList Try.prog ops Q (o :: rest) a w :=
  app_more hgd s x ho w0.heap.size v L X A m c hG.row hX hm hl hG.below.size hsv hxv (fun v' w2 k1 k2 _ => hK v' w2 (Lib.hid (hG.then_ k1 k2)) (Lib.hid k2))
/-- A box that the call has made ahead of the row stands through it. -/
theorem own_block_ne {w0 w : World} {L : List UInt8} {v : Value} (h : Grow w0 L v w) {g : Nat} {t : TypeId} {cs : Array Value} (hg : Whole w g t cs) (ht : t ≠ 5) : g ∉ v.ownBlock.toList := fun hx => own_ne h.row hg (Ne.symm ht) (by simpa using hx)
theorem ints_lit (w : World) (l : List Int) : IntsAt (w.alloc (.cells (i64s l).toArray 3)) (some ⟨w.heap.size, 0, none⟩) l := fun h0 => by
  refine ⟨w.heap.size, 0, rfl, by simp, fun j x hx => ?_⟩
  rw [(Whole.new w 3 (i64s l).toArray).cell]
  rw [Nat.zero_add, List.getElem?_toArray]
  unfold i64s
  rw [List.getElem?_map, hx]
  rfl
end Go.Proofs.Ytboflkadabagfab.Gw
namespace Go.Proofs.Ytboflkadabagfab.Oct.Rb
open Go.RowKit
open Oct
set_option linter.unusedVariables false
set_option maxRecDepth 100000
theorem map_block {A : Option Addr} {s : Nat} : ∀ ad, Option.map (fun x => x.add s) A = some ad → ∃ a0, A = some a0 ∧ ad.block = a0.block := by
  intro ad e
  cases A with
  | none => cases e
  | some a =>
    have e2 : ad = a.add s := by simpa using e.symm
    subst e2
    refine ⟨a, rfl, ?_⟩
    unfold Addr.add
    split <;> rfl
/-- What the document's reader answers: a first value, and the reader behind it; its bytes lie where they lay. -/
def RefRead (w : World) (A0 : Option Addr) (n0 : Nat) (v : Value) (l : List UInt8) (e : Nat) (x : Ending) (w' : World) : Prop :=
  ∃ A c, x = .returned (.tuple #[v, .agg #[.slice A l.length c, .int .i64 (e : Int)]]) ∧ BytesAt w A l ∧ l.length ≤ c ∧ c ≤ 9223372036854775807 ∧ Below w.heap.size w w' ∧ l.length ≤ n0 ∧ ∀ ad, A = some ad → ∃ a0, A0 = some a0 ∧ ad.block = a0.block
theorem refRead {A0 : Option Addr} {n0 : Nat} {w w' : World} {l m : List UInt8} {e a x n : Nat} {A : Option Addr} {c : Nat} {k : Int} (h : OM.rnum l e = (a, m, x)) (hk : k = (a : Int)) (hn : m.length = n) (hB : BytesAt w A m) (h3 : n ≤ c) (h4 : c ≤ 9223372036854775807) (hb : Below w.heap.size w w') (h5 : n ≤ n0) (h6 : ∀ ad, A = some ad → ∃ a0, A0 = some a0 ∧ ad.block = a0.block) :
    RefRead w A0 n0 (.int .i64 ((OM.rnum l e).1 : Int)) (OM.rnum l e).2.1 (OM.rnum l e).2.2 (.returned (.tuple #[.int .i64 k, .agg #[.slice A n c, .int .i64 (x : Int)]])) w' := by
  rw [h, hk]
  subst hn
  exact ⟨A, c, rfl, hB, h3, h4, hb, h5, h6⟩
set_option maxRecDepth 100000 in
set_option maxHeartbeats 2000000 in
theorem ReadNum_any (A : Option Addr) (c : Nat) (l : List UInt8) (e : Nat) (w : World) (h : BytesAt w A l) (h3 : l.length ≤ c) (h4 : c ≤ 9223372036854775807) :
    Calls Try.prog 58 #[.agg #[.slice A l.length c, .int .i64 (e : Int)]] w (RefRead w A l.length (.int .i64 ((OM.rnum l e).1 : Int)) (OM.rnum l e).2.1 (OM.rnum l e).2.2) := by
  have K2 := Lib.hid h; clear h
  by_cases he : e = 0
  · subst he
    rcases OM.take_err l with ⟨a, s, ht⟩ | ht | ht
    · have hs := OM.take_le ht
      have T := Lib.hid ht; clear ht
      go_enter Try.func58, Try.ntmps58
      go_wp2_with (go_at_call 82; refine (TakeNum_any _ _ l _ ((K2.out.below ((Below.refl _ w).alloc (Nat.le_refl _) _)).below ((Below.refl _ _).alloc (Nat.le_refl _) _)) (by omega)).mono ?_; rintro x w' ⟨rfl, rfl⟩; rw [T.out])
      go_region
      all_goals go_wp2
      · have hB := K2.out.cut (k := s) (c := c) hs h3
        rw [if_pos (by assumption)] at hB
        refine bodyPost_ret (v := .tuple #[.int .i64 (a : Int), .agg #[.slice A (l.length - s) 0, .int .i64 0]]) ?_ rfl ?_
        · rw [results_tmp_cell rfl]
          go_simp
        · exact refRead (rnum_ok T.out) rfl (by rw [List.length_drop]) hB (by omega) (by omega) (((Below.refl _ _).alloc (Nat.le_refl _) _).alloc (by simp) _).drew (by omega) (fun ad e => ⟨ad, e, rfl⟩)
      · have hB := K2.out.cut (k := s) (c := c) hs h3
        rw [if_neg (by assumption)] at hB
        refine bodyPost_ret (v := .tuple #[.int .i64 (a : Int), .agg #[.slice (Option.map (fun x => x.add s) A) (l.length - s) (c - s), .int .i64 0]]) ?_ rfl ?_
        · rw [results_tmp_cell rfl]
          go_simp
        · exact refRead (rnum_ok T.out) rfl (by rw [List.length_drop]) hB (by omega) (by omega) (((Below.refl _ _).alloc (Nat.le_refl _) _).alloc (by simp) _).drew (by omega) map_block
    · have T := Lib.hid ht; clear ht
      go_enter Try.func58, Try.ntmps58
      go_wp2_with (go_at_call 82; refine (TakeNum_any _ _ l _ ((K2.out.below ((Below.refl _ w).alloc (Nat.le_refl _) _)).below ((Below.refl _ _).alloc (Nat.le_refl _) _)) (by omega)).mono ?_; rintro x w' ⟨rfl, rfl⟩; rw [T.out])
      go_region
      go_wp2
      refine bodyPost_ret (v := .tuple #[.int .i64 0, .agg #[.slice A l.length c, .int .i64 20]]) ?_ rfl ?_
      · rw [results_tmp_cell rfl]
        go_simp
      · exact refRead (rnum_bad T.out (by decide)) rfl rfl K2.out h3 h4 (((Below.refl _ _).alloc (Nat.le_refl _) _).alloc (by simp) _).drew (by omega) (fun ad e => ⟨ad, e, rfl⟩)
    · have T := Lib.hid ht; clear ht
      go_enter Try.func58, Try.ntmps58
      go_wp2_with (go_at_call 82; refine (TakeNum_any _ _ l _ ((K2.out.below ((Below.refl _ w).alloc (Nat.le_refl _) _)).below ((Below.refl _ _).alloc (Nat.le_refl _) _)) (by omega)).mono ?_; rintro x w' ⟨rfl, rfl⟩; rw [T.out])
      go_region
      go_wp2
      refine bodyPost_ret (v := .tuple #[.int .i64 0, .agg #[.slice A l.length c, .int .i64 21]]) ?_ rfl ?_
      · rw [results_tmp_cell rfl]
        go_simp
      · exact refRead (rnum_bad T.out (by decide)) rfl rfl K2.out h3 h4 (((Below.refl _ _).alloc (Nat.le_refl _) _).alloc (by simp) _).drew (by omega) (fun ad e => ⟨ad, e, rfl⟩)
  · have he' : ¬ (e : Int) = 0 := by omega
    go_enter Try.func58, Try.ntmps58
    go_wp2_with fail
    go_region
    go_wp2
    refine bodyPost_ret (v := .tuple #[.int .i64 0, .agg #[.slice A l.length c, .int .i64 (e : Int)]]) ?_ rfl ?_
    · rw [results_tmp_cell rfl]
      go_simp
    · exact refRead (rnum_stuck he) rfl rfl K2.out h3 h4 (((Below.refl _ _).alloc (Nat.le_refl _) _).alloc (by simp) _).drew (by omega) (fun ad e => ⟨ad, e, rfl⟩)
theorem refReadT {A0 : Option Addr} {n0 : Nat} {w w' : World} {l m t : List UInt8} {e x n : Nat} {most : Int} {A : Option Addr} {c : Nat} {k : ByteArray} (h : OM.rtext l e most = (t, m, x)) (hk : k = ⟨t.toArray⟩) (hn : m.length = n) (hB : BytesAt w A m) (h3 : n ≤ c) (h4 : c ≤ 9223372036854775807) (hb : Below w.heap.size w w') (h5 : n ≤ n0) (h6 : ∀ ad, A = some ad → ∃ a0, A0 = some a0 ∧ ad.block = a0.block) :
    RefRead w A0 n0 (.string ⟨(OM.rtext l e most).1.toArray⟩) (OM.rtext l e most).2.1 (OM.rtext l e most).2.2 (.returned (.tuple #[.string k, .agg #[.slice A n c, .int .i64 (x : Int)]])) w' := by
  rw [h, hk]
  subst hn
  exact ⟨A, c, rfl, hB, h3, h4, hb, h5, h6⟩
set_option maxRecDepth 100000 in
set_option maxHeartbeats 2000000 in
theorem ReadText_any (A : Option Addr) (c : Nat) (l : List UInt8) (e : Nat) (most : Int) (w : World) (hmost : -9223372036854775808 ≤ most ∧ most ≤ 9223372036854775807) (h : BytesAt w A l) (h3 : l.length ≤ c) (h4 : c ≤ 9223372036854775807) :
    Calls Try.prog 26 #[.agg #[.slice A l.length c, .int .i64 (e : Int)], .int .i64 most] w (RefRead w A l.length (.string ⟨(OM.rtext l e most).1.toArray⟩) (OM.rtext l e most).2.1 (OM.rtext l e most).2.2) := by
  have K2 := Lib.hid h; clear h
  by_cases he : e = 0
  · subst he
    obtain ⟨t, k, x, ht⟩ : ∃ t k x, tt l most = (t, k, x) := ⟨_, _, _, rfl⟩
    have hs := tt_le l most
    rw [ht] at hs
    have T := Lib.hid ht; clear ht
    by_cases hx : x = 0
    · subst hx
      go_enter Try.func26, Try.ntmps26
      go_wp2_with (go_at_call 59; refine (TakeText_any _ _ l most _ hmost ((K2.out.below ((Below.refl _ w).alloc (Nat.le_refl _) _)).below ((Below.refl _ _).alloc (Nat.le_refl _) _)) h3 h4).mono ?_; rintro x w' ⟨rfl, rfl⟩; rw [T.out])
      go_region
      all_goals go_wp2
      · have hB := K2.out.cut (k := k) (c := c) hs h3
        rw [if_pos (by assumption)] at hB
        refine bodyPost_ret (v := .tuple #[.string ⟨t.toArray⟩, .agg #[.slice A (l.length - k) 0, .int .i64 0]]) ?_ rfl ?_
        · rw [results_tmp_cell rfl]
          go_simp
        · exact refReadT (tt_good T.out) rfl (by rw [List.length_drop]) hB (by omega) (by omega) (((Below.refl _ _).alloc (Nat.le_refl _) _).alloc (by simp) _).drew (by omega) (fun ad e => ⟨ad, e, rfl⟩)
      · have hB := K2.out.cut (k := k) (c := c) hs h3
        rw [if_neg (by assumption)] at hB
        refine bodyPost_ret (v := .tuple #[.string ⟨t.toArray⟩, .agg #[.slice (Option.map (fun x => x.add k) A) (l.length - k) (c - k), .int .i64 0]]) ?_ rfl ?_
        · rw [results_tmp_cell rfl]
          go_simp
        · exact refReadT (tt_good T.out) rfl (by rw [List.length_drop]) hB (by omega) (by omega) (((Below.refl _ _).alloc (Nat.le_refl _) _).alloc (by simp) _).drew (by omega) map_block
    · have hx' : ¬ (x : Int) = 0 := by omega
      go_enter Try.func26, Try.ntmps26
      go_wp2_with (go_at_call 59; refine (TakeText_any _ _ l most _ hmost ((K2.out.below ((Below.refl _ w).alloc (Nat.le_refl _) _)).below ((Below.refl _ _).alloc (Nat.le_refl _) _)) h3 h4).mono ?_; rintro x w' ⟨rfl, rfl⟩; rw [T.out])
      go_region
      go_wp2
      refine bodyPost_ret (v := .tuple #[.string ⟨#[]⟩, .agg #[.slice A l.length c, .int .i64 (x : Int)]]) ?_ rfl ?_
      · rw [results_tmp_cell rfl]
        go_simp
      · exact refReadT (tt_fail T.out hx) rfl rfl K2.out h3 h4 (((Below.refl _ _).alloc (Nat.le_refl _) _).alloc (by simp) _).drew (by omega) (fun ad e => ⟨ad, e, rfl⟩)
  · have he' : ¬ (e : Int) = 0 := by omega
    go_enter Try.func26, Try.ntmps26
    go_wp2_with fail
    go_region
    go_wp2
    refine bodyPost_ret (v := .tuple #[.string ⟨#[]⟩, .agg #[.slice A l.length c, .int .i64 (e : Int)]]) ?_ rfl ?_
    · rw [results_tmp_cell rfl]
      go_simp
    · exact refReadT (rtext_stuck he) rfl rfl K2.out h3 h4 (((Below.refl _ _).alloc (Nat.le_refl _) _).alloc (by simp) _).drew (by omega) (fun ad e => ⟨ad, e, rfl⟩)
end Go.Proofs.Ytboflkadabagfab.Oct.Rb
