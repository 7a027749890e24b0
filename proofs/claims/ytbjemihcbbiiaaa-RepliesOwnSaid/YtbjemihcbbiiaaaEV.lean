/- Texts that belong together: Each, Vals. -/
import Derived.Test.YtbjemihcbbiiaaaMem
import Derived.Deep.RegionHeld3
import Derived.Lib.Hide
namespace Go.Proofs.Ytbjemihcbbiiaaa
open Go.RowKit
set_option linter.unusedVariables false
section
variable {P : Program} {ops : Array Oper} {Q : Exit → Act → World → Prop}
def dstOf (ops : Array Oper) (j : Nat) : Option Tmp := (ops[j]?).bind (·.dst)
/-- The values of these operations, in their temporaries. -/
def puts (ops : Array Oper) (vs : Nat → Value) (a : Act) : List Nat → Act
  | [] => a
  | j :: r => (puts ops vs a r).put (dstOf ops j) (vs j)
theorem put_size (a : Act) (d : Option Tmp) (v : Value) : (a.put d v).tmps.size = a.tmps.size := by
  cases d <;> simp [Act.put]
theorem put_defers' (a : Act) (d : Option Tmp) (v : Value) : (a.put d v).defers = a.defers := by
  cases d <;> rfl
theorem put_ne {a : Act} {d : Option Tmp} {v : Value} {t : Nat} (h : d ≠ some t) : (a.put d v).tmps[t]? = a.tmps[t]? := by
  cases d with
  | none => rfl
  | some d =>
    have hne : d ≠ t := fun e => h (e ▸ rfl)
    simp [Act.put, Array.getElem?_setIfInBounds_ne hne]
theorem put_eq {a : Act} {v : Value} {t : Nat} (h : t < a.tmps.size) : (a.put (some t) v).tmps[t]? = some v := by
  simp [Act.put, h]
theorem puts_size (vs : Nat → Value) (a : Act) : ∀ l : List Nat, (puts ops vs a l).tmps.size = a.tmps.size
  | [] => rfl
  | j :: r => by rw [puts, put_size, puts_size vs a r]
theorem puts_defers (vs : Nat → Value) (a : Act) : ∀ l : List Nat, (puts ops vs a l).defers = a.defers
  | [] => rfl
  | j :: r => by rw [puts, put_defers', puts_defers vs a r]
theorem puts_ne (vs : Nat → Value) (a : Act) {t : Nat} : ∀ {l : List Nat}, (∀ j ∈ l, dstOf ops j ≠ some t) → (puts ops vs a l).tmps[t]? = a.tmps[t]?
  | [], _ => rfl
  | j :: r, h => by rw [puts, put_ne (h j (by simp)), puts_ne vs a (fun k hk => h k (by simp [hk]))]
theorem puts_eq (vs : Nat → Value) (a : Act) {t j : Nat} (hj : dstOf ops j = some t) (ht : t < a.tmps.size) (hu : ∀ k, dstOf ops k = some t → k = j) : ∀ {l : List Nat}, j ∈ l → (puts ops vs a l).tmps[t]? = some (vs j)
  | k :: r, h => by
    rw [puts]
    by_cases hk : dstOf ops k = some t
    · rw [hk, hu k hk, put_eq (by rw [puts_size]; exact ht)]
    · rw [put_ne hk]
      refine puts_eq vs a hj ht hu ?_
      rcases List.mem_cons.1 h with rfl | h
      · exact absurd hj hk
      · exact h
/-- The lists of those that each operation waits for: asked of the region's text. -/
def eachOk (ops : Array Oper) (ls : List (List Nat)) (n : Nat) : Bool :=
  (List.range ops.size).all (fun i => match ops[i]? with
    | none => false
    | some o =>
      (o.after.toList.all fun e => !Region.binds .any e || (ls.getD i []).contains e.on) &&
      ((ls.getD i []).all fun j => decide (j < i) && (o.after.toList.any fun e => Region.binds .any e && (e.on == j || (ls.getD e.on []).contains j))) &&
      ((o.looksAt ops).all fun t => (List.range ops.size).all fun j => !(dstOf ops j == some t) || ((ls.getD i []).contains j || (ls.getD j []).contains i)) &&
      (match o.dst with
        | none => true
        | some t => decide (t < n) && ((List.range ops.size).all fun j => !(dstOf ops j == some t) || j == i)) &&
      (match o.op with
        | .select _ _ => false
        | _ => true))
structure EachOk (ops : Array Oper) (ls : List (List Nat)) (n : Nat) : Prop where
  after : ∀ i o, ops[i]? = some o → ∀ e ∈ o.after, Region.binds .any e = true → e.on ∈ ls.getD i []
  low : ∀ i, i < ops.size → ∀ j ∈ ls.getD i [], j < i
  from_ : ∀ i o, ops[i]? = some o → ∀ j ∈ ls.getD i [], ∃ e ∈ o.after, Region.binds .any e = true ∧ (e.on = j ∨ j ∈ ls.getD e.on [])
  looks : ∀ i o, ops[i]? = some o → ∀ t ∈ o.looksAt ops, ∀ j, dstOf ops j = some t → j ∈ ls.getD i [] ∨ i ∈ ls.getD j []
  size : ∀ i t, dstOf ops i = some t → t < n
  one : ∀ i j t, dstOf ops i = some t → dstOf ops j = some t → j = i
  sel : ∀ (i : Nat) o, ops[i]? = some o → ∀ cs b, o.op ≠ .select cs b
theorem dst_lt {i t : Nat} (h : dstOf ops i = some t) : i < ops.size := by
  unfold dstOf at h
  by_cases hi : i < ops.size
  · exact hi
  · rw [Array.getElem?_eq_none (by omega)] at h
    cases h
theorem eachOk_spec {ls : List (List Nat)} {n : Nat} (h : eachOk ops ls n = true) : EachOk ops ls n := by
  have hall : ∀ i o, ops[i]? = some o → _ := fun i o ho => by
    have h1 := List.all_eq_true.1 h i (List.mem_range.2 (Array.getElem?_eq_some_iff.1 ho).1)
    rw [ho] at h1
    simp only [Bool.and_eq_true] at h1
    exact h1
  have hget : ∀ i, i < ops.size → ∃ o, ops[i]? = some o := fun i hi => ⟨_, Array.getElem?_eq_getElem hi⟩
  refine ⟨fun i o ho e he hb => ?_, fun i hi j hj => ?_, fun i o ho j hj => ?_, fun i o ho t ht j hj => ?_, fun i t hi => ?_, fun i j t hi hj => ?_, fun i o ho cs b hc => ?_⟩
  · have h1 := List.all_eq_true.1 (hall i o ho).1.1.1.1 e (Array.mem_toList_iff.2 he)
    rw [hb] at h1
    simpa using h1
  · obtain ⟨o, ho⟩ := hget i hi
    have h1 := List.all_eq_true.1 (hall i o ho).1.1.1.2 j hj
    simp only [Bool.and_eq_true, decide_eq_true_eq] at h1
    exact h1.1
  · have h1 := List.all_eq_true.1 (hall i o ho).1.1.1.2 j hj
    simp only [Bool.and_eq_true, decide_eq_true_eq] at h1
    obtain ⟨e, he, hb⟩ := List.any_eq_true.1 h1.2
    simp only [Bool.and_eq_true, Bool.or_eq_true, beq_iff_eq, List.contains_iff_mem] at hb
    exact ⟨e, Array.mem_toList_iff.1 he, hb.1, hb.2⟩
  · have h1 := List.all_eq_true.1 (hall i o ho).1.1.2 t ht
    have h2 := List.all_eq_true.1 h1 j (List.mem_range.2 (dst_lt hj))
    rw [hj] at h2
    simpa using h2
  · obtain ⟨o, ho⟩ := hget i (dst_lt hi)
    have h1 := (hall i o ho).1.2
    have e : o.dst = some t := by unfold dstOf at hi; rw [ho] at hi; exact hi
    rw [e] at h1
    simp only [Bool.and_eq_true, decide_eq_true_eq] at h1
    exact h1.1
  · obtain ⟨o, ho⟩ := hget i (dst_lt hi)
    have h1 := (hall i o ho).1.2
    have e : o.dst = some t := by unfold dstOf at hi; rw [ho] at hi; exact hi
    rw [e] at h1
    simp only [Bool.and_eq_true, decide_eq_true_eq] at h1
    have h2 := List.all_eq_true.1 h1.2 j (List.mem_range.2 (dst_lt hj))
    rw [hj] at h2
    simpa using h2
  · have h1 := (hall i o ho).2
    rw [hc] at h1
    cases h1
def updv (vs : Nat → Value) (i : Nat) (v : Value) : Nat → Value := fun j => if j = i then v else vs j
/-- What is known of an operation hangs on its own value and on those of the ones that it waits for. -/
def Leans (F : Nat → (Nat → Value) → World → Prop) (ls : List (List Nat)) : Prop := ∀ j us us' w, (∀ k, k = j ∨ k ∈ ls.getD j [] → us k = us' k) → F j us w → F j us' w
/-- What stands closed till it is opened, for the unifier too. -/
structure Box (p : Prop) : Prop where
  out : p
/-- Number i comes up, those that it waits for being behind it. -/
def EachAt (P : Program) (ops : Array Oper) (Q : Exit → Act → World → Prop) (F : Nat → (Nat → Value) → World → Prop) (I J : World → Prop) (late : List Nat) (ls : List (List Nat)) (A : (Nat → Value) → Act) (i : Nat) (o : Oper) (l : List Nat) : Prop :=
  ∀ (vs : Nat → Value) (w : World), I w → ((∀ k ∈ late, k = i ∨ i ∈ ls.getD k []) → J w) → (∀ j ∈ l, F j vs w) → ∀ K : Act → World → Prop,
    Box (∀ v w', I w' → F i (updv vs i v) w' → (∀ j, j ≠ i → i ∉ ls.getD j [] → F j vs w → F j vs w') → (i ∉ late → J w → J w') → K ((A vs).put o.dst v) w') →
    Box (if Region.wanted o (yielded ops (A vs).tmps) = true then Oper.wp P o (A vs) w K (NoPanic Q) else K ((A vs).put o.dst undef) w)
inductive EachAll (P : Program) (ops : Array Oper) (Q : Exit → Act → World → Prop) (F : Nat → (Nat → Value) → World → Prop) (I J : World → Prop) (late : List Nat) (ls : List (List Nat)) (a : Act) : Nat → Prop
  | nil : EachAll P ops Q F I J late ls a 0
  | snoc {i : Nat} {o : Oper} {l : List Nat} {A : (Nat → Value) → Act} : EachAll P ops Q F I J late ls a i → ops[i]? = some o → ls[i]? = some l → (∀ vs, puts ops vs a l = A vs) → EachAt P ops Q F I J late ls A i o l → EachAll P ops Q F I J late ls a (i + 1)
theorem EachAll.get {F : Nat → (Nat → Value) → World → Prop} {I J : World → Prop} {late : List Nat} {ls : List (List Nat)} {a : Act} {n : Nat} (h : EachAll P ops Q F I J late ls a n) : ∀ i, i < n → ∃ o, ops[i]? = some o ∧ EachAt P ops Q F I J late ls (fun vs => puts ops vs a (ls.getD i [])) i o (ls.getD i []) := by
  induction h with
  | nil => intro i hi; omega
  | @snoc k o l A hk ho hl hA he ih =>
    intro i hi
    by_cases e : i = k
    · subst e
      refine ⟨o, ho, ?_⟩
      rw [List.getD_eq_getElem?_getD, hl]
      have e2 : (fun vs => puts ops vs a l) = A := funext hA
      show EachAt P ops Q F I J late ls (fun vs => puts ops vs a l) i o l
      rw [e2]
      exact he
    · exact ih i (by omega)
theorem put_alike {A B : Act} {d : Option Tmp} {u : Value} {R : Value → Prop} (hs : A.tmps.size = B.tmps.size) (h : ∃ v, A.put d u = A.put d v ∧ R v) : ∃ v, B.put d u = B.put d v ∧ R v := by
  obtain ⟨v, e, hr⟩ := h
  refine ⟨v, ?_, hr⟩
  cases d with
  | none => rfl
  | some t =>
    by_cases ht : t < A.tmps.size
    · have h1 := put_eq (v := u) ht
      rw [e, put_eq ht] at h1
      rw [Option.some.inj h1]
    · have h2 : ∀ x : Value, B.put (some t) x = B := fun x => by
        unfold Act.put
        simp only
        rw [Array.setIfInBounds_eq_of_size_le (by rw [← hs]; exact Nat.le_of_not_lt ht)]
      rw [h2, h2]
/-- What an operation does at one state it does at another that looks alike to it. -/
theorem wp_alike {o : Oper} {A B : Act} {w : World} {R : Value → World → Prop} (hs : A.tmps.size = B.tmps.size) (hd : A.defers = B.defers) (he : execOp A.eval o = execOp B.eval o)
    (h : Oper.wp P o A w (fun a' w' => ∃ v, a' = A.put o.dst v ∧ R v w') (NoPanic Q)) : Oper.wp P o B w (fun a' w' => ∃ v, a' = B.put o.dst v ∧ R v w') (NoPanic Q) := by
  have hput : ∀ (u : Value) (w' : World), (∃ v, A.put o.dst u = A.put o.dst v ∧ R v w') → ∃ v, B.put o.dst u = B.put o.dst v ∧ R v w' := fun u w' h => put_alike (R := fun v => R v w') hs h
  unfold Oper.wp at *
  rw [he] at h
  generalize (execOp B.eval o).run P w = r at *
  cases r with
  | ok n w' =>
    cases n <;> simp only [Oper.upon] at h ⊢
    case value u => exact hput u w' h
    case skip => exact hput _ w' h
    case defer d =>
      obtain ⟨v, e, _⟩ := h
      have := congrArg (fun a : Act => a.defers.length) e
      simp only [put_defers'] at this
      simp at this
    case enter f args =>
      refine Calls.mono h fun e w'' he => ?_
      cases e with
      | returned u => exact hput u w'' he
      | panicked c => exact he
      | outgrown => exact he
    case row row args => exact Rows.mono h fun u w'' he => hput u w'' he
  | halt x w' =>
    cases x <;> simp only [Oper.upon] at h ⊢
    case panic u => exact h
theorem eval_of_get {A B : Act} {x : Operand} (h : ∀ t, x = .tmp t → A.tmps[t]? = B.tmps[t]?) : A.eval x = B.eval x := by
  cases x with
  | tmp t =>
    have := h t rfl
    simp [Act.eval, this]
  | _ => rfl
theorem wanted_of_get {A B : Act} {o : Oper} (h : ∀ t ∈ o.looksAt ops, A.tmps[t]? = B.tmps[t]?) : Region.wanted o (yielded ops A.tmps) = Region.wanted o (yielded ops B.tmps) := by
  unfold Region.wanted
  cases hg : o.guard with
  | none => rfl
  | some gw =>
    obtain ⟨g, want⟩ := gw
    have hy : yielded ops A.tmps g = yielded ops B.tmps g := by
      unfold yielded
      cases ht : (ops[g]?).bind (·.dst) with
      | none => rfl
      | some t =>
        have := h t (by simp [Oper.looksAt, hg, ht])
        simp only [Option.bind_some]
        rw [this]
    simp only [hy]
/-- Where a region stands. -/
structure EachSt (ops : Array Oper) (F : Nat → (Nat → Value) → World → Prop) (I J : World → Prop) (late : List Nat) (ls : List (List Nat)) (a : Act) (b : Array Bool) (vs : Nat → Value) (B : Act) (w : World) : Prop where
  bsize : b.size = ops.size
  size : B.tmps.size = a.tmps.size
  defers : B.defers = a.defers
  closed : ∀ i, i < ops.size → b.getD i false = true → ∀ j ∈ ls.getD i [], b.getD j false = true
  out : ∀ t, (∀ j, b.getD j false = true → dstOf ops j ≠ some t) → B.tmps[t]? = a.tmps[t]?
  into : ∀ j t, b.getD j false = true → dstOf ops j = some t → B.tmps[t]? = some (vs j)
  inv : I w
  held : (∀ k ∈ late, b.getD k false = false) → J w
  fact : ∀ j, j < ops.size → b.getD j false = true → F j vs w
theorem getD_set {b : Array Bool} {i j : Nat} (hi : i < b.size) : (b.setIfInBounds i true).getD j false = if i = j then true else b.getD j false := by
  rw [Array.getD_eq_getD_getElem?, Array.getD_eq_getD_getElem?, Array.getElem?_setIfInBounds]
  split
  · subst_vars; simp
  · rfl
theorem each_step {F : Nat → (Nat → Value) → World → Prop} {I J : World → Prop} {late : List Nat} {ls : List (List Nat)} {a : Act} (hcg : Leans F ls) (hok : EachOk ops ls a.tmps.size) (hst : ∀ i, i < ops.size → ∃ o, ops[i]? = some o ∧ EachAt P ops Q F I J late ls (fun vs => puts ops vs a (ls.getD i [])) i o (ls.getD i []))
    {b : Array Bool} {vs : Nat → Value} {B : Act} {w : World} (h : EachSt ops F I J late ls a b vs B w) {i : Nat} (hi : i ∈ Region.ready .any ops b) :
    wpOp P ops (NoPanic Q) i (fun a' w' => ∃ vs', EachSt ops F I J late ls a (b.setIfInBounds i true) vs' a' w') B w := by
  obtain ⟨hun, o, ho, haft⟩ := mem_ready.1 hi
  have hlt : i < ops.size := (Array.getElem?_eq_some_iff.1 ho).1
  have hbi : b.getD i false = false := by
    rw [Array.getD_eq_getD_getElem?] at hun ⊢
    have hb := h.bsize
    rw [Array.getElem?_eq_getElem (by omega)] at hun ⊢
    exact hun
  have hanc : ∀ j ∈ ls.getD i [], b.getD j false = true := fun j hj => by
    obtain ⟨e, he, hb, hor⟩ := hok.from_ i o ho j hj
    have h1 := haft e he hb
    rcases hor with rfl | hor
    · exact h1
    · refine h.closed e.on ?_ h1 j hor
      have := hok.low i hlt e.on (hok.after i o ho e he hb)
      omega
  obtain ⟨o', ho', hat⟩ := hst i hlt
  rw [ho] at ho'
  cases ho'
  have hs : (puts ops vs a (ls.getD i [])).tmps.size = B.tmps.size := by rw [puts_size, h.size]
  have hd : (puts ops vs a (ls.getD i [])).defers = B.defers := by rw [puts_defers, h.defers]
  have hget : ∀ t ∈ o.looksAt ops, (puts ops vs a (ls.getD i [])).tmps[t]? = B.tmps[t]? := fun t ht => by
    by_cases hj : ∃ j, dstOf ops j = some t
    · obtain ⟨j, hj⟩ := hj
      by_cases hm : j ∈ ls.getD i []
      · rw [puts_eq vs a hj (hok.size j t hj) (fun k hk => hok.one j k t hj hk) hm, h.into j t (hanc j hm) hj]
      · have hij := (hok.looks i o ho t ht j hj).resolve_left hm
        have hbj : b.getD j false ≠ true := fun e => by
          have := h.closed j (dst_lt hj) e i hij
          rw [hbi] at this
          cases this
        rw [puts_ne vs a (fun k hk e => hm (hok.one j k t hj e ▸ hk)), h.out t (fun k hk e => hbj (hok.one j k t hj e ▸ hk))]
    · rw [puts_ne vs a (fun k _ e => hj ⟨k, e⟩), h.out t (fun k _ e => hj ⟨k, e⟩)]
  have he : execOp (puts ops vs a (ls.getD i [])).eval o = execOp B.eval o := execOp_congr o (hok.sel i o ho) fun x hx => eval_of_get fun t e => hget t (by
    subst e
    exact List.mem_append_left _ (List.mem_filterMap.2 ⟨.tmp t, by simpa using hx, rfl⟩))
  have hnew : ∀ v w', (I w' ∧ F i (updv vs i v) w' ∧ (∀ j, j ≠ i → i ∉ ls.getD j [] → F j vs w → F j vs w') ∧ (i ∉ late → J w → J w')) → ∃ vs', EachSt ops F I J late ls a (b.setIfInBounds i true) vs' (B.put o.dst v) w' := fun v w' ⟨hI, hF, hP, hJ⟩ => by
    have hib : i < b.size := by rw [h.bsize]; exact hlt
    have hdi : dstOf ops i = o.dst := by unfold dstOf; rw [ho]; rfl
    refine ⟨updv vs i v, by simp [h.bsize], by rw [put_size, h.size], by rw [put_defers', h.defers], ?_, ?_, ?_, hI, fun hl => ?_, ?_⟩
    · intro k hk hb j hj
      rw [getD_set hib] at hb ⊢
      split
      · rfl
      · by_cases hki : i = k
        · subst hki; exact hanc j hj
        · rw [if_neg hki] at hb; exact h.closed k hk hb j hj
    · intro t ht
      have h1 := ht i (by rw [getD_set hib, if_pos rfl])
      rw [put_ne (by rw [← hdi]; exact h1)]
      exact h.out t fun j hj => ht j (by rw [getD_set hib]; split <;> simp [hj])
    · intro j t hb hj
      rw [getD_set hib] at hb
      by_cases hji : j = i
      · subst hji
        rw [← hdi, hj, put_eq (by rw [h.size]; exact hok.size j t hj)]
        unfold updv
        rw [if_pos rfl]
      · rw [if_neg (fun e => hji e.symm)] at hb
        unfold updv
        rw [if_neg hji, put_ne (fun e => hji (hok.one i j t (hdi.trans e) hj)), h.into j t hb hj]
    · have hil : i ∉ late := fun hm => by
        have := hl i hm
        rw [getD_set hib, if_pos rfl] at this
        cases this
      refine hJ hil (h.held fun k hk => ?_)
      have := hl k hk
      rw [getD_set hib] at this
      split at this
      · cases this
      · exact this
    · intro j hj hb
      rw [getD_set hib] at hb
      by_cases hji : j = i
      · subst hji; exact hF
      · rw [if_neg (fun e => hji e.symm)] at hb
        have hni : i ∉ ls.getD j [] := fun hm => by
          have := h.closed j hj hb i hm
          rw [hbi] at this
          cases this
        refine hcg j vs (updv vs i v) w' (fun k hk => ?_) (hP j hji hni (h.fact j hj hb))
        have hki : k ≠ i := fun e => by
          rcases hk with hk | hk
          · exact hji (hk ▸ e)
          · exact hni (e ▸ hk)
        unfold updv
        rw [if_neg hki]
  have hJw : (∀ k ∈ late, k = i ∨ i ∈ ls.getD k []) → J w := fun hk => h.held fun k hkl => by
    rcases hk k hkl with rfl | hm
    · exact hbi
    · cases hb : b.getD k false with
      | false => rfl
      | true =>
        by_cases hks : k < ops.size
        · have := h.closed k hks hb i hm
          rw [hbi] at this
          cases this
        · rw [Array.getD_eq_getD_getElem?, Array.getElem?_eq_none (by rw [h.bsize]; omega)] at hb
          cases hb
  have hK := (hat vs w h.inv hJw (fun j hj => h.fact j (by have := hok.low i hlt j hj; omega) (hanc j hj)) (fun a' w' => ∃ v, a' = (puts ops vs a (ls.getD i [])).put o.dst v ∧ (I w' ∧ F i (updv vs i v) w' ∧ (∀ j, j ≠ i → i ∉ ls.getD j [] → F j vs w → F j vs w') ∧ (i ∉ late → J w → J w')))
    ⟨fun v w' k1 k2 k3 k4 => ⟨v, rfl, k1, k2, k3, k4⟩⟩).out
  rw [wanted_of_get hget] at hK
  unfold wpOp
  rw [ho]
  simp only
  by_cases hw : Region.wanted o (yielded ops B.tmps) = true
  · rw [if_pos hw] at hK ⊢
    refine .inl (Oper.wp_mono (fun a' w' hk => ?_) (wp_alike hs hd he hK))
    obtain ⟨v, rfl, hr⟩ := hk
    exact hnew v w' hr
  · rw [if_neg hw] at hK ⊢
    obtain ⟨v, e, hr⟩ := hK
    obtain ⟨u, e2, hr2⟩ := put_alike (R := fun v => I w ∧ F i (updv vs i v) w ∧ (∀ j, j ≠ i → i ∉ ls.getD j [] → F j vs w → F j vs w) ∧ (i ∉ late → J w → J w)) hs ⟨v, e, hr⟩
    rw [e2]
    exact hnew u w hr2
theorem each_ready {ls : List (List Nat)} {n : Nat} (hok : EachOk ops ls n) {b : Array Bool} (hb : b.size = ops.size) (hr : Region.ready .any ops b = []) : ∀ m i, i < m → i < ops.size → b.getD i false = true := by
  intro m
  induction m with
  | zero => intro i hi; omega
  | succ m ih =>
    intro i him hi
    by_cases h0 : b.getD i false = true
    · exact h0
    · exfalso
      have hm : i ∈ Region.ready .any ops b := by
        refine mem_ready.2 ⟨?_, _, Array.getElem?_eq_getElem hi, fun e he hbd => ?_⟩
        · rw [Array.getD_eq_getD_getElem?] at h0 ⊢
          rw [Array.getElem?_eq_getElem (by omega)] at h0 ⊢
          simpa using h0
        · have := hok.low i hi e.on (hok.after i _ (Array.getElem?_eq_getElem hi) e he hbd)
          exact ih e.on (by omega) (by omega)
      rw [hr] at hm
      cases hm
/-- The values of all. -/
def allPut (ops : Array Oper) (vs : Nat → Value) (a : Act) : Nat → Act
  | 0 => a
  | n + 1 => (allPut ops vs a n).put (dstOf ops n) (vs n)
theorem allPut_eq (vs : Nat → Value) (a : Act) : ∀ n, allPut ops vs a n = puts ops vs a (List.range n).reverse
  | 0 => rfl
  | n + 1 => by rw [List.range_succ, List.reverse_append, List.reverse_singleton, List.singleton_append, puts, allPut, allPut_eq vs a n]
theorem each_any {F : Nat → (Nat → Value) → World → Prop} {I J : World → Prop} {late : List Nat} {ls : List (List Nat)} {a : Act} (hcg : Leans F ls) (hok : EachOk ops ls a.tmps.size) (hst : ∀ i, i < ops.size → ∃ o, ops[i]? = some o ∧ EachAt P ops Q F I J late ls (fun vs => puts ops vs a (ls.getD i [])) i o (ls.getD i []))
    (hend : ∀ vs w, I w → (∀ j, j < ops.size → F j vs w) → Q .normal (allPut ops vs a ops.size) w) :
    ∀ (n : Nat) (b : Array Bool) (vs : Nat → Value) (B : Act) (w : World), EachSt ops F I J late ls a b vs B w → (b.toList.countP (· == false)) ≤ n → wpAny P .any ops (NoPanic Q) n b B w := by
  have hdone : ∀ (b : Array Bool) (vs : Nat → Value) (B : Act) (w : World), EachSt ops F I J late ls a b vs B w → Region.ready .any ops b = [] → Q .normal B w := fun b vs B w h hr => by
    have hall := fun i hi => each_ready hok h.bsize hr (i + 1) i (by omega) hi
    have e : B = allPut ops vs a ops.size := by
      rw [allPut_eq]
      obtain ⟨bt, bd⟩ := B
      have e1 : bt = (puts ops vs a (List.range ops.size).reverse).tmps := by
        refine Array.ext_getElem? fun t => ?_
        by_cases hj : ∃ j, dstOf ops j = some t
        · obtain ⟨j, hj⟩ := hj
          rw [puts_eq vs a hj (hok.size j t hj) (fun k hk => hok.one j k t hj hk) (by simp [dst_lt hj])]
          exact h.into j t (hall j (dst_lt hj)) hj
        · rw [puts_ne vs a (fun k _ e => hj ⟨k, e⟩)]
          exact h.out t (fun k _ e => hj ⟨k, e⟩)
      have e2 : bd = (puts ops vs a (List.range ops.size).reverse).defers := by rw [puts_defers]; exact h.defers
      cases hx : puts ops vs a (List.range ops.size).reverse with
      | mk x y => rw [hx] at e1 e2; simp only at e1 e2; subst e1 e2; rfl
    rw [e]
    exact hend vs w h.inv fun j hj => h.fact j hj (hall j hj)
  intro n
  induction n with
  | zero =>
    intro b vs B w h hc
    have hr : Region.ready .any ops b = [] := by
      refine List.eq_nil_iff_forall_not_mem.2 fun i hi => ?_
      obtain ⟨hun, o, ho, _⟩ := mem_ready.1 hi
      have hlt : i < b.size := by rw [h.bsize]; exact (Array.getElem?_eq_some_iff.1 ho).1
      have h0 : b.toList.countP (· == false) = 0 := by omega
      have := List.countP_eq_zero.1 h0 (b[i]) (by simp)
      rw [Array.getD_eq_getD_getElem?, Array.getElem?_eq_getElem hlt] at hun
      simp at hun this
      rw [hun] at this
      cases this
    exact ⟨hr, NoPanic.normal (hdone b vs B w h hr)⟩
  | succ n ih =>
    intro b vs B w h hc
    refine ⟨fun hr => NoPanic.normal (hdone b vs B w h hr), fun i hi => wpOp_mono (fun a' w' k => ?_) (each_step hcg hok hst h hi)⟩
    obtain ⟨vs', h'⟩ := k
    refine ih _ vs' a' w' h' ?_
    obtain ⟨hun, o, ho, _⟩ := mem_ready.1 hi
    have hlt : i < b.size := by rw [h.bsize]; exact (Array.getElem?_eq_some_iff.1 ho).1
    rw [Array.getD_eq_getD_getElem?, Array.getElem?_eq_getElem hlt] at hun
    have hbi : b.toList[i]'(by simpa using hlt) = false := by simpa using hun
    have hl : i < b.toList.length := by simpa using hlt
    have e : b.toList = b.toList.take i ++ b.toList[i] :: b.toList.drop (i + 1) := by rw [← List.drop_eq_getElem_cons hl, List.take_append_drop]
    have e2 : (b.setIfInBounds i true).toList = b.toList.take i ++ true :: b.toList.drop (i + 1) := by
      rw [Array.toList_setIfInBounds, List.set_eq_take_append_cons_drop, if_pos hl]
    rw [e2, List.countP_append, List.countP_cons]
    rw [e, List.countP_append, List.countP_cons, hbi] at hc
    simp at hc ⊢
    omega
/-- What is known of the operations, as a list. -/
def known : List ((Nat → Value) → World → Prop) → Nat → (Nat → Value) → World → Prop
  | [], _, _, _ => True
  | f :: _, 0, us, w => f us w
  | _ :: r, n + 1, us, w => known r n us w
theorem known_keep {w w' : World} {us : Nat → Value} : ∀ {l : List ((Nat → Value) → World → Prop)} (i : Nat), (∀ f ∈ l, f us w → f us w') → known l i us w → known l i us w'
  | [], _, _, _ => trivial
  | f :: _, 0, h, hf => h f (by simp) hf
  | _ :: r, n + 1, h, hf => known_keep (l := r) n (fun f hf => h f (by simp [hf])) hf
/-- A region that draws its order: each operation once. -/
theorem region_each {id : Nat} {a : Act} {w : World} (F : Nat → (Nat → Value) → World → Prop) (I J : World → Prop) (late : List Nat) (ls : List (List Nat)) (hcg : Leans F ls) (hm : P.follows .mixedOrders = true) {n : Nat} (hn : a.tmps.size = n) (hok : eachOk ops ls n = true) (h0 : I w.drew) (hj0 : J w.drew)
    {Z : (Nat → Value) → Act} (hZ : ∀ vs, allPut ops vs a ops.size = Z vs) (hst : EachAll P ops Q F I J late ls a ops.size) (hend : ∀ vs w, I w → (∀ j, j < ops.size → F j vs w) → Box (Q .normal (Z vs) w)) : (Code.region id ops true).wp P Q a w := by
  subst hn
  refine wp_region_noPanic (wp_region_any hm (each_any hcg (eachOk_spec hok) hst.get (fun vs w h1 h2 => by rw [hZ]; exact (hend vs w h1 h2).out) _ _ (fun _ => undef) _ _ ⟨by simp, rfl, rfl, ?_, fun _ _ => rfl, ?_, h0, fun _ => hj0, ?_⟩ ?_))
  · intro i hi hb
    rw [Array.getD_eq_getD_getElem?, Array.getElem?_replicate, if_pos hi] at hb
    cases hb
  · intro j t hb hj
    rw [Array.getD_eq_getD_getElem?, Array.getElem?_replicate, if_pos (dst_lt hj)] at hb
    cases hb
  · intro j hj hb
    rw [Array.getD_eq_getD_getElem?, Array.getElem?_replicate, if_pos hj] at hb
    cases hb
  · simp [List.countP_replicate]
/-- An append in a region. -/
theorem step_append {P : Program} {ops : Array Oper} {d : Option Tmp} {s x : Operand} {T ty : TypeId} {ps : String} {af : Array Edge} {a : Act} {K : Act → World → Prop} {Q : Exit → Act → World → Prop} {E : Prop} {W W2 : World} {vs vx v' : Value}
    (hs : a.eval s = vs) (hx : a.eval x = vx) (hrun : (Builtin.append_ #[T, T] ty #[vs, vx]).run P W = .ok v' W2) (h : K (a.put d v') W2) :
    if Region.wanted { dst := d, op := .call { callee := .builtin .append, args := #[s, x], argTypes := #[T, T] }, type := ty, pos := ps, after := af, guard := none } (yielded ops a.tmps) = true
      then Oper.wp P { dst := d, op := .call { callee := .builtin .append, args := #[s, x], argTypes := #[T, T] }, type := ty, pos := ps, after := af, guard := none } a W K Q else E := by
  rw [if_pos (by simp [Region.wanted])]
  unfold Oper.wp execOp
  simp only [resolve, invoke, builtin, Sem.run_bind, Sem.run_pure, Result.andThen_ok, List.map_toArray, List.map_cons, List.map_nil, hs, hx, hrun]
  exact h
end
end Go.Proofs.Ytbjemihcbbiiaaa
namespace Go.Proofs.Ytbjemihcbbiiaaa
open Go.RowKit
set_option linter.unusedVariables false
section
variable {P : Program} {ops : Array Oper} {Q : Exit → Act → World → Prop}
/-- Each operation has the value that the list says. -/
def valued (L : List Value) : Nat → (Nat → Value) → World → Prop := fun j us _ => us j = L.getD j undef
theorem valued_leans (L : List Value) (ls : List (List Nat)) : Leans (valued L) ls := fun j us us' w h hF => by
  unfold valued at *
  rw [← h j (.inl rfl)]
  exact hF
/-- These values, in the temporaries from d on. -/
def ch (a : Act) (vs : Nat → Value) (d : Nat) : List Nat → Act
  | [] => a
  | j :: r => (ch a vs d r).put (some (d + j)) (vs j)
/-- These values, in these temporaries. -/
def cq (a : Act) (vs : Nat → Value) : List (Nat × Nat) → Act
  | [] => a
  | j :: r => (cq a vs r).put (some j.1) (vs j.2)
/-- The same in the order of the text. -/
theorem each_seq {F : Nat → (Nat → Value) → World → Prop} {I J : World → Prop} {late : List Nat} {ls : List (List Nat)} {a : Act} (hcg : Leans F ls) (hok : EachOk ops ls a.tmps.size) (hst : ∀ i, i < ops.size → ∃ o, ops[i]? = some o ∧ EachAt P ops Q F I J late ls (fun vs => puts ops vs a (ls.getD i [])) i o (ls.getD i []))
    (hend : ∀ vs w, I w → (∀ j, j < ops.size → F j vs w) → Q .normal (allPut ops vs a ops.size) w) :
    ∀ (n k : Nat) (b : Array Bool) (vs : Nat → Value) (B : Act) (w : World), EachSt ops F I J late ls a b vs B w → (∀ j, b.getD j false = (decide (j < k) && decide (j < ops.size))) → k + n = ops.size → wpOps P ops (NoPanic Q) (List.range' k n) B w
  | 0, k, b, vs, B, w, h, hb, hk => by
    refine (each_any hcg hok hst hend 0 b vs B w h ?_).2
    refine Nat.le_of_eq (List.countP_eq_zero.2 fun x hx => ?_)
    obtain ⟨j, hj, rfl⟩ := List.mem_iff_getElem.1 hx
    have h1 := hb j
    have hjs : j < ops.size := by have := h.bsize; simp at hj; omega
    rw [Array.getD_eq_getD_getElem?, Array.getElem?_eq_getElem (by simpa using hj)] at h1
    simp only [show j < k by omega, hjs, decide_true, Bool.and_self, Option.getD_some] at h1
    simp [h1]
  | n + 1, k, b, vs, B, w, h, hb, hk => by
    have hks : k < ops.size := by omega
    have hkb : k < b.size := by rw [h.bsize]; exact hks
    have hbk : b.getD k false = false := by rw [hb]; simp
    rw [List.range'_succ, wpOps_cons]
    refine wpOp_mono (fun a' w' hh => ?_) (each_step hcg hok hst h (mem_ready.2 ⟨?_, ops[k], Array.getElem?_eq_getElem hks, fun e he hbd => ?_⟩))
    · obtain ⟨vs', h'⟩ := hh
      refine each_seq hcg hok hst hend n (k + 1) _ vs' a' w' h' (fun j => ?_) (by omega)
      rw [getD_set hkb]
      by_cases hj : k = j
      · subst hj
        simp [hks]
      · rw [if_neg hj, hb]
        have : (j < k ↔ j < k + 1) := by omega
        simp only [this]
    · rw [Array.getD_eq_getD_getElem?, Array.getElem?_eq_getElem hkb] at hbk ⊢
      exact hbk
    · have h1 := hok.after k _ (Array.getElem?_eq_getElem hks) e he hbd
      have h2 := hok.low k hks e.on h1
      rw [hb]
      simp; omega
theorem region_seq {id : Nat} {a : Act} {w : World} (F : Nat → (Nat → Value) → World → Prop) (I J : World → Prop) (late : List Nat) (ls : List (List Nat)) (hcg : Leans F ls) {n : Nat} (hn : a.tmps.size = n) (hok : eachOk ops ls n = true) (h0 : I w) (hj0 : J w)
    {Z : (Nat → Value) → Act} (hZ : ∀ vs, allPut ops vs a ops.size = Z vs) (hst : EachAll P ops Q F I J late ls a ops.size) (hend : ∀ vs w, I w → (∀ j, j < ops.size → F j vs w) → Box (Q .normal (Z vs) w)) : (Code.region id ops false).wp P Q a w := by
  subst hn
  refine wp_region_noPanic (wp_region ?_)
  rw [List.range_eq_range']
  refine each_seq hcg (eachOk_spec hok) hst.get (fun vs w h1 h2 => by rw [hZ]; exact (hend vs w h1 h2).out) ops.size 0 (Array.replicate ops.size false) (fun _ => undef) a w ⟨by simp, rfl, rfl, ?_, fun _ _ => rfl, ?_, h0, fun _ => hj0, ?_⟩ (fun j => ?_) (by omega)
  · intro i hi hb
    rw [Array.getD_eq_getD_getElem?, Array.getElem?_replicate, if_pos hi] at hb
    cases hb
  · intro j t hb hj
    rw [Array.getD_eq_getD_getElem?, Array.getElem?_replicate, if_pos (dst_lt hj)] at hb
    cases hb
  · intro j hj hb
    rw [Array.getD_eq_getD_getElem?, Array.getElem?_replicate, if_pos hj] at hb
    cases hb
  · rw [Array.getD_eq_getD_getElem?, Array.getElem?_replicate]
    simp
    split <;> rfl
/-- Is a guard's operation one of those waited for, with a slot of its own? -/
def guardOk (ops : Array Oper) (ls : List (List Nat)) : Bool :=
  (List.range ops.size).all fun i => match ops[i]? with
    | none => true
    | some o => match o.guard with
      | none => true
      | some (g, _) => (ls.getD i []).contains g && (dstOf ops g).isSome
/-- The slots that the operations write, as a list. -/
def dsOk (ops : Array Oper) (ds : List (Option Nat)) : Bool := (List.range ops.size).all fun j => dstOf ops j == ds.getD j none
theorem dsOk.at_ {ds : List (Option Nat)} (h : dsOk ops ds = true) {j t : Nat} (hj : dstOf ops j = some t) : ds.getD j none = some t := by
  have h1 := List.all_eq_true.1 h j (List.mem_range.2 (dst_lt hj))
  rw [hj] at h1
  exact (by simpa using h1 : some t = _).symm
theorem dsOk.has {ds : List (Option Nat)} (h : dsOk ops ds = true) {j t : Nat} (hj : j < ops.size) (hd : ds.getD j none = some t) : dstOf ops j = some t := by
  have h1 := List.all_eq_true.1 h j (List.mem_range.2 hj)
  rw [hd] at h1
  simpa using h1
theorem dsOk.mem {ds : List (Option Nat)} (h : dsOk ops ds = true) {j t : Nat} (hj : dstOf ops j = some t) : ds.contains (some t) = true := by
  have h1 := dsOk.at_ h hj
  rw [List.getD_eq_getElem?_getD] at h1
  cases hg : ds[j]? with
  | none => rw [hg] at h1; cases h1
  | some x =>
    rw [hg] at h1
    have e : x = some t := h1
    subst e
    exact List.contains_iff_mem.2 (List.mem_of_getElem? hg)
/-- What is found in the slots, behind these operations. -/
structure Look (ds : List (Option Nat)) (L : List Value) (l : List Nat) (a B : Act) : Prop where
  at_ : ∀ j ∈ l, ∀ t, ds.getD j none = some t → B.tmps[t]? = some (L.getD j undef)
  out : ∀ t, ds.contains (some t) = false → B.tmps[t]? = a.tmps[t]?
def Want (L : List Value) (o : Oper) (X : Prop) : Prop := match o.guard with
  | none => X
  | some (g, p) => L.getD g undef = .bool p → X
def Idle (L : List Value) (i : Nat) (o : Oper) : Prop := match o.guard with
  | none => True
  | some (g, p) => L.getD g undef ≠ .bool p → L.getD i undef = undef
theorem idle_t {e : Bool} {x : Value} : Value.bool e ≠ .bool true → cond e x undef = undef := by
  cases e <;> intro h
  · rfl
  · exact absurd rfl h
theorem idle_f {e : Bool} {x : Value} : Value.bool e ≠ .bool false → cond e undef x = undef := by
  cases e <;> intro h
  · exact absurd rfl h
  · rfl
theorem idle_in_t {e p : Bool} {g x : Value} (h : g ≠ .bool p → x = undef) : cond e g undef ≠ .bool p → cond e x undef = undef := by
  cases e
  · intro _; rfl
  · exact h
theorem idle_in_f {e p : Bool} {g x : Value} (h : g ≠ .bool p → x = undef) : cond e undef g ≠ .bool p → cond e undef x = undef := by
  cases e
  · exact h
  · intro _; rfl
theorem want_t {e p : Bool} {g : Value} (h : cond e g undef = .bool p) : e = true ∧ g = .bool p := by
  cases e
  · cases h
  · exact ⟨rfl, h⟩
theorem want_f {e p : Bool} {g : Value} (h : cond e undef g = .bool p) : e = false ∧ g = .bool p := by
  cases e
  · exact ⟨rfl, h⟩
  · cases h
theorem want_b {e p : Bool} (h : Value.bool e = .bool p) : e = p := by injection h
/-- Number i comes up, if it is wanted, those that it waits for being behind it. -/
def VStep (P : Program) (ds : List (Option Nat)) (L : List Value) (I : World → Prop) (a : Act) (i : Nat) (o : Oper) (l : List Nat) : Prop :=
  ∀ (B : Act) (w : World), I w → Look ds L l a B → Want L o (∀ (K : Act → World → Prop) (E : Exit → Act → World → Prop), Box (∀ v w', I w' → v = L.getD i undef → K (B.put o.dst v) w') → Box (Oper.wp P o B w K E))
inductive VAll (P : Program) (ops : Array Oper) (ds : List (Option Nat)) (L : List Value) (I : World → Prop) (ls : List (List Nat)) (a : Act) : Nat → Prop
  | nil : VAll P ops ds L I ls a 0
  | snoc {i : Nat} {o : Oper} {l : List Nat} : VAll P ops ds L I ls a i → ops[i]? = some o → ls[i]? = some l → Idle L i o → VStep P ds L I a i o l → VAll P ops ds L I ls a (i + 1)
theorem VAll.each {L : List Value} {I : World → Prop} {ls : List (List Nat)} {a : Act} (hok : EachOk ops ls a.tmps.size) (hgd : guardOk ops ls = true) {ds : List (Option Nat)} (hds : dsOk ops ds = true) {n : Nat} (h : VAll P ops ds L I ls a n) : EachAll P ops Q (valued L) I (fun _ => True) [] ls a n := by
  induction h with
  | nil => exact .nil
  | @snoc i o l hk ho hl hid he ih =>
    have hli : ls.getD i [] = l := by rw [List.getD_eq_getElem?_getD, hl]; rfl
    have hlk : ∀ vs : Nat → Value, (∀ j ∈ l, vs j = L.getD j undef) → Look ds L l a (puts ops vs a l) := fun vs hF =>
      ⟨fun j hj t ht => by
          have ht := dsOk.has hds (Nat.lt_trans (hok.low i (Array.getElem?_eq_some_iff.1 ho).1 j (by rw [hli]; exact hj)) (Array.getElem?_eq_some_iff.1 ho).1) ht
          rw [puts_eq vs a ht (hok.size j t ht) (fun k hk => hok.one j k t ht hk) hj, hF j hj],
        fun t ht => puts_ne vs a fun j _ hd => by
          rw [dsOk.mem hds hd] at ht
          cases ht⟩
    refine .snoc ih ho hl (fun _ => rfl) fun vs w hI _ hF K hK => ?_
    have hK' : Box (∀ v w', I w' → v = L.getD i undef → K ((puts ops vs a l).put o.dst v) w') := ⟨fun v w' hi hv => hK.out v w' hi (by show updv vs i v i = _; simp [updv, hv]) (fun j _ _ h => h) (fun _ _ => trivial)⟩
    have hs := he (puts ops vs a l) w hI (hlk vs hF)
    have hq := hlk vs hF
    unfold Want at hs
    unfold Idle at hid
    cases hgo : o.guard with
    | none =>
      rw [hgo] at hs
      refine ⟨?_⟩
      rw [if_pos (by simp [Region.wanted, hgo])]
      exact (hs K _ hK').out
    | some gp =>
      obtain ⟨g, p⟩ := gp
      rw [hgo] at hs hid
      have h1 := List.all_eq_true.1 hgd i (List.mem_range.2 (Array.getElem?_eq_some_iff.1 ho).1)
      rw [ho] at h1
      simp only [hgo, Bool.and_eq_true, List.contains_iff_mem, hli] at h1
      obtain ⟨hgl, hgs⟩ := h1
      obtain ⟨t, ht⟩ := Option.isSome_iff_exists.1 hgs
      have hy : yielded ops (puts ops vs a l).tmps g = match some (L.getD g undef) with
          | some (.bool b) => some b
          | _ => none := by
        unfold yielded
        have e : (ops[g]?).bind (·.dst) = some t := ht
        rw [e, ← hq.at_ g hgl t (dsOk.at_ hds ht)]
        rfl
      refine ⟨?_⟩
      by_cases hv : L.getD g undef = .bool p
      · rw [hv] at hy
        rw [if_pos (by simp [Region.wanted, hgo, hy])]
        exact (hs hv K _ hK').out
      · have hw : Region.wanted o (yielded ops (puts ops vs a l).tmps) = false := by
          simp only [Region.wanted, hgo, hy]
          cases hL : L.getD g undef with
          | bool b =>
            rw [hL] at hv
            have : b ≠ p := fun e => hv (by rw [e])
            simp [this]
          | _ => simp
        rw [if_neg (by rw [hw]; decide)]
        exact hK'.out _ w hI (hid hv).symm
theorem region_vany {id : Nat} {a : Act} {w : World} (ds : List (Option Nat)) (L : List Value) (I : World → Prop) (ls : List (List Nat)) (hm : P.follows .mixedOrders = true) {n : Nat} (hn : a.tmps.size = n) (hok : eachOk ops ls n = true) (hgd : guardOk ops ls = true) (hds : dsOk ops ds = true) (h0 : I w.drew)
    {Z : (Nat → Value) → Act} (hZ : ∀ vs, allPut ops vs a ops.size = Z vs) (hst : VAll P ops ds L I ls a ops.size) (hend : ∀ vs w, I w → (∀ j, j < ops.size → vs j = L.getD j undef) → Box (Q .normal (Z vs) w)) : (Code.region id ops true).wp P Q a w :=
  region_each (valued L) I (fun _ => True) [] ls (valued_leans L ls) hm hn hok h0 trivial hZ (hst.each (by subst hn; exact eachOk_spec hok) hgd hds) hend
theorem region_vseq {id : Nat} {a : Act} {w : World} (ds : List (Option Nat)) (L : List Value) (I : World → Prop) (ls : List (List Nat)) {n : Nat} (hn : a.tmps.size = n) (hok : eachOk ops ls n = true) (hgd : guardOk ops ls = true) (hds : dsOk ops ds = true) (h0 : I w)
    {Z : (Nat → Value) → Act} (hZ : ∀ vs, allPut ops vs a ops.size = Z vs) (hst : VAll P ops ds L I ls a ops.size) (hend : ∀ vs w, I w → (∀ j, j < ops.size → vs j = L.getD j undef) → Box (Q .normal (Z vs) w)) : (Code.region id ops false).wp P Q a w :=
  region_seq (valued L) I (fun _ => True) [] ls (valued_leans L ls) hn hok h0 trivial hZ (hst.each (by subst hn; exact eachOk_spec hok) hgd hds) hend
end
end Go.Proofs.Ytbjemihcbbiiaaa
