/- Slices of bytes that the call may write to: what append makes of one, whatever its block's type. -/
import Derived.Test.YtdagmkkkiaacoaaDkArg
import Derived.Deep.AppendSrc
namespace Go.Proofs.Ytdagmkkkiaacoaa
open Go.RowKit
open By (BytesAt u8s own_shape)
set_option linter.unusedVariables false
set_option linter.unusedSimpArgs false
set_option maxRecDepth 100000
/-- A slice of n bytes, in a block that may be turned; what it holds doesn't matter. -/
structure GwAt (w : World) (F : List Nat) (B g n c : Nat) : Prop where
  ex : ∃ cs t, Whole w g t cs ∧ c ≤ cs.size ∧ t ≠ 35
  ge : g ∈ F ∨ B ≤ g
  le : n ≤ c
  cap : c ≤ 9223372036854775807
/-- All rows stay rows. -/
def Holds (W w2 : World) : Prop := ∀ (b : Nat) (t : TypeId) (cs : Array Value), Whole W b t cs → ∃ cs', Whole w2 b t cs' ∧ cs'.size = cs.size
theorem Holds.refl (w : World) : Holds w w := fun _ _ cs h => ⟨cs, h, rfl⟩
theorem Holds.trans {a b c : World} (h : Holds a b) (k : Holds b c) : Holds a c := fun g t cs hg => by
  obtain ⟨cs', h1, h2⟩ := h g t cs hg
  obtain ⟨cs2, k1, k2⟩ := k g t cs' h1
  exact ⟨cs2, k1, k2.trans h2⟩
theorem Holds.store (w : World) (p : Addr) (hp : p.spot = none) (u : Value) : Holds w (w.setCell p u) := fun b t cs h => by
  obtain ⟨g, i, s⟩ := p
  have hp : s = none := hp
  subst hp
  by_cases e : b = g
  · subst e
    exact ⟨_, h.store i u, by simp⟩
  · exact ⟨cs, h.far e u, rfl⟩
theorem Holds.alloc (w : World) (o : Obj) : Holds w (w.alloc o) := fun b t cs h => ⟨cs, h.alloc o, rfl⟩
theorem Holds.drew (w : World) : Holds w w.drew := fun b t cs h => ⟨cs, h, rfl⟩
theorem Holds.of (w w' : World) (h : Below w.heap.size w w') : Holds w w' := fun b t cs hw => ⟨cs, (Mod.of_below h []).whole hw (by simp), rfl⟩
theorem Holds.cellAt {a b : World} {g k : Nat} {t : TypeId} {cs : Array Value} (h : Holds a b) (hw : Whole a g t cs) (hk : k < cs.size) : ∃ u, b.cell? ⟨g, k, none⟩ = some u ∧ b.frozen? ⟨g, k, none⟩ = false := by
  obtain ⟨cs', k1, k2⟩ := h g t cs hw
  exact ⟨_, (k1.cell k).trans (Array.getElem?_eq_getElem (by omega)), k1.frozen k⟩
theorem GwAt.holds {a b : World} {F : List Nat} {B g n c : Nat} (h : GwAt a F B g n c) (k : Holds a b) : GwAt b F B g n c := by
  obtain ⟨cs, t, h1, h2, h3⟩ := h.ex
  obtain ⟨cs', k1, k2⟩ := k g t cs h1
  exact ⟨⟨cs', t, k1, by omega, h3⟩, h.ge, h.le, h.cap⟩
theorem GwAt.ne {a : World} {F : List Nat} {B g n c b : Nat} {cs : Array Value} (h : GwAt a F B g n c) (k : Whole a b 35 cs) : g ≠ b := by
  obtain ⟨cs', t, h1, _, h3⟩ := h.ex
  exact Whole.ne h1 k h3
theorem GwAt.lt {w : World} {F : List Nat} {B g n c : Nat} (h : GwAt w F B g n c) : g < w.heap.size := by
  obtain ⟨cs, t, h1, _⟩ := h.ex
  exact h1.lt
theorem run_app_gw {W : World} {F : List Nat} {B g n c : Nat} (ty : TypeId) (h : GwAt W F B g n c) {p : Nat} {y : Value} (h1 : y.oneCell' = true) (hp : Whole W p 5 #[y]) (hn : n ≤ 1000) (hB : B ≤ W.heap.size) :
    ∃ g' c' w2, (Builtin.append_ #[35, 35] ty #[.slice (some ⟨g, 0, none⟩) n c, .slice (some ⟨p, 0, none⟩) 1 1]).run Try.prog W = .ok (.slice (some ⟨g', 0, none⟩) (n + 1) c') w2 ∧
      GwAt w2 F B g' (n + 1) c' ∧ Mod [g] W w2 ∧ Holds W w2 := by
  obtain ⟨i0, hi, hz0, hz1, hz2⟩ := info_parts By.info_u8
  obtain ⟨cs, t, hw, hc, hty⟩ := h.ex
  have hs : Src Try.prog i0.size 35 (.slice (some ⟨p, 0, none⟩) 1 1) 1 [y] W := Src.ofSlice W Try.underlying35 ⟨p, 0, none⟩ 1 1 [y] (by rw [hz1]; rfl)
    (World.news_of_block (cs := #[y]) (t := 5) (fr := (0, 0)) hp) (by intro u hu; rw [List.mem_singleton.1 hu]; exact h1)
  have hle := h.le
  by_cases hr : n + 1 ≤ c
  · have hrun := run_append_room_src (P := Try.prog) W 35 35 ty 5 i0 Try.underlying35 hi g 0 n c _ 1 [y] hs hr
      (fun j hj => by
        have hj0 : j = 0 := by simpa using hj
        subst hj0
        rw [hz1, hw.cell, Array.getElem?_eq_getElem (by omega)]; rfl)
      (fun j hj => hw.frozen _)
    rw [hz1] at hrun
    have e : W.setCells g (0 + n * 1) [y] = W.setCell ⟨g, n, none⟩ y := by rw [Nat.zero_add, Nat.mul_one]; rfl
    rw [e] at hrun
    have hH := Holds.store W ⟨g, n, none⟩ rfl y
    exact ⟨g, c, _, hrun, ⟨(h.holds hH).ex, h.ge, hr, h.cap⟩, (Mod.refl [g] W).store (.inl (by simp)) y, hH⟩
  · have hlt : c < n + 1 := by omega
    have hcs : n ≤ cs.size := by omega
    have hold : (Builtin.firstCells i0.size n (.slice (some ⟨g, 0, none⟩) n c)).run Try.prog W.drew = .ok (cs.toList.take n).toArray W.drew :=
      run_firstCells_some W.drew i0.size n ⟨g, 0, none⟩ n c (cs.toList.take n) (by rw [hz1, List.length_take, Array.length_toList]; omega) (fun j u hu => by
        have hj : j < n := by have := (List.getElem?_eq_some_iff.1 hu).1; rw [List.length_take] at this; omega
        rw [List.getElem?_take, if_pos hj] at hu
        rw [Addr.add_lit, Nat.zero_add]
        exact (hw.cell j).trans (by simpa using hu))
    have hrun := run_append_grow_src (P := Try.prog) W 35 35 ty 5 i0 (.int .u8 0) Try.underlying35 hi hz0 (some ⟨g, 0, none⟩) n c (cs.toList.take n) hold _ 1 [y] hs hlt (by omega) (growslice_fits hlt (by rw [hz2]; omega))
    have hge := grownCap_ge W (n + 1) c 5
    have hcm : grownCap W (n + 1) c 5 ≤ maxLen := grownCap_le_maxLen W (n + 1) c 5 (by unfold maxLen; omega)
    refine ⟨W.heap.size, grownCap W (n + 1) c 5, _, hrun, ⟨⟨_, _, Whole.new W.drew _ _, ?_, by decide⟩, .inr hB, hge, by unfold maxLen at hcm; omega⟩, (((Mod.refl [g] W).drew).alloc _), (Holds.drew W).trans (Holds.alloc _ _)⟩
    simp only [Array.size_append, List.size_toArray, List.length_append, List.length_take, Array.length_toList, size_zeroCells]
    have hv1 : (Value.int IntKind.u8 0).cells.size = 1 := rfl
    rw [hv1]
    simp only [List.length_cons, List.length_nil]
    omega
theorem wp_app_gw {W : World} {o : Oper} {a : Act} {K : Act → World → Prop} {Q : Exit → Act → World → Prop} (s x : Operand) (ho : o.op = .call { callee := .builtin .append, args := #[s, x], argTypes := #[35, 35] })
    {F : List Nat} {B g n c : Nat} (h : GwAt W F B g n c) (p : Nat) (y : Value) (h1 : y.oneCell' = true) (hp : Whole W p 5 #[y]) (hn : n ≤ 1000) (hB : B ≤ W.heap.size)
    (hsv : a.eval s = .slice (some ⟨g, 0, none⟩) n c) (hxv : a.eval x = .slice (some ⟨p, 0, none⟩) 1 1)
    (hK : ∀ g' c' w2, GwAt w2 F B g' (n + 1) c' → Mod [g] W w2 → Holds W w2 → K (a.put o.dst (.slice (some ⟨g', 0, none⟩) (n + 1) c')) w2) : o.wp Try.prog a W K Q := by
  obtain ⟨g', c', w2, hr, h2, h3, h4⟩ := run_app_gw o.type h h1 hp hn hB
  unfold Oper.wp execOp
  simp only [ho, resolve, invoke, builtin, Sem.run_bind, Sem.run_pure, Result.andThen_ok, List.map_toArray, List.map_cons, List.map_nil, hsv, hxv, hr]
  exact hK g' c' w2 h2 h3 h4
theorem list_app_gw {W : World} {ops : Array Oper} {rest : List Oper} {o : Oper} {a : Act} {Q : Exit → Act → World → Prop} (hgd : o.guard = none) (s x : Operand) (ho : o.op = .call { callee := .builtin .append, args := #[s, x], argTypes := #[35, 35] })
    {F : List Nat} {B g n c : Nat} (h : GwAt W F B g n c) (p : Nat) (y : Value) (h1 : y.oneCell' = true) (hp : Whole W p 5 #[y]) (hn : n ≤ 1000) (hB : B ≤ W.heap.size)
    (hsv : a.eval s = .slice (some ⟨g, 0, none⟩) n c) (hxv : a.eval x = .slice (some ⟨p, 0, none⟩) 1 1)
    (hK : ∀ g' c' w2, GwAt w2 F B g' (n + 1) c' → Mod [g] W w2 → Holds W w2 → wpList Try.prog ops Q rest (a.put o.dst (.slice (some ⟨g', 0, none⟩) (n + 1) c')) w2) : wpList Try.prog ops Q (o :: rest) a W :=
  wpList_plain hgd fun _ hK' => wp_app_gw s x ho h p y h1 hp hn hB hsv hxv (fun g' c' w2 k1 k2 k3 => hK' _ _ (hK g' c' w2 k1 k2 k3))
theorem step_app_gw {W : World} {ops : Array Oper} {d : Option Tmp} {s x : Operand} {ty : TypeId} {ps : String} {af : Array Edge} {a : Act} {K : Act → World → Prop} {Q : Exit → Act → World → Prop} {E : Prop}
    {F : List Nat} {B g n c : Nat} (h : GwAt W F B g n c) (p : Nat) (y : Value) (h1 : y.oneCell' = true) (hp : Whole W p 5 #[y]) (hn : n ≤ 1000) (hB : B ≤ W.heap.size)
    (hsv : a.eval s = .slice (some ⟨g, 0, none⟩) n c) (hxv : a.eval x = .slice (some ⟨p, 0, none⟩) 1 1)
    (hK : ∀ g' c' w2, GwAt w2 F B g' (n + 1) c' → Mod [g] W w2 → Holds W w2 → K (a.put d (.slice (some ⟨g', 0, none⟩) (n + 1) c')) w2) :
    if Region.wanted { dst := d, op := .call { callee := .builtin .append, args := #[s, x], argTypes := #[35, 35] }, type := ty, pos := ps, after := af, guard := none } (yielded ops a.tmps) = true
      then Oper.wp Try.prog { dst := d, op := .call { callee := .builtin .append, args := #[s, x], argTypes := #[35, 35] }, type := ty, pos := ps, after := af, guard := none } a W K Q else E := by
  rw [if_pos (by simp [Region.wanted])]
  exact wp_app_gw s x rfl h p y h1 hp hn hB hsv hxv hK
/-- A text's bytes, the full list, the two disks. -/
structure So (w : World) (b cap gx gy : Nat) (dx dy : Dk) (F : List UInt8) (cur : World) : Prop where
  own : cur.ownsRow w.heap.size 5 1 (.slice (some ⟨b, 0, none⟩) 66 cap) 66 (u8s (F ++ [91, 92]))
  x : DkAt cur gx dx
  y : DkAt cur gy dy
  gex : w.heap.size ≤ gx
  gey : w.heap.size ≤ gy
  ne : gx ≠ gy
  below : Below w.heap.size w cur
section
variable {w cur : World} {b cap gx gy : Nat} {dx dy : Dk} {F : List UInt8}
theorem bytes_pre {w : World} {A : Option Addr} {l m : List UInt8} (h : BytesAt w A (l ++ m)) : BytesAt w A l := fun h0 => by
  obtain ⟨b, o, e, hb, hc⟩ := h (by rw [List.length_append]; omega)
  exact ⟨b, o, e, hb, fun j x hx => hc j x (by rw [List.getElem?_append_left (List.getElem?_eq_some_iff.1 hx).1]; exact hx)⟩
theorem blk_of {b n c k : Nat} (h : (Value.slice (some ⟨b, 0, none⟩) n c).ownBlock = some k) : k = b := by
  have e : b = k := by simpa [Value.ownBlock] using h
  exact e.symm
theorem So.bytes (h : So w b cap gx gy dx dy F cur) : BytesAt cur (some ⟨b, 0, none⟩) (F ++ [91, 92]) := By.BytesAt.own h.own
theorem So.nb (h : So w b cap gx gy dx dy F cur) : b ≠ gx ∧ b ≠ gy := by
  obtain ⟨cs, hx, _⟩ := h.x.ex
  obtain ⟨ds, hy, _⟩ := h.y.ex
  exact ⟨fun e => own_ne h.own hx (by decide) (by rw [e]; rfl), fun e => own_ne h.own hy (by decide) (by rw [e]; rfl)⟩
theorem So.on (h : So w b cap gx gy dx dy F cur) {w' : World} (hb : Below cur.heap.size cur w') : So w b cap gx gy dx dy F w' :=
  ⟨(Mod.of_below hb []).own h.own (by simp), h.x.below hb, h.y.below hb, h.gex, h.gey, h.ne, below_on h.below hb⟩
theorem So.writeX (h : So w b cap gx gy dx dy F cur) (hF : F.length = 64) (i : Int) :
    Calls Try.prog 21 #[.pointer (some ⟨gx, 0, none⟩), .int .i64 i, .slice (some ⟨b, 0, none⟩) 64 cap] cur fun e w' => e = .returned (.int .i64 (DK.werr dx i 64)) ∧ Hid (So w b cap gx gy (DK.written dx i F) dy F w') := by
  have hw := Write_any h.x i (some ⟨b, 0, none⟩) F cap (bytes_pre h.bytes) (fun ad e => by injection e with e; subst e; exact h.nb.1)
  rw [hF] at hw
  exact hw.mono fun e w' ⟨h1, h2, h3⟩ => ⟨h1, Lib.hid ⟨h3.out.own h.own (fun k hk hx => h.nb.1 ((blk_of hk).symm.trans (List.mem_singleton.1 hx))), h2.out, h.y.mod h3.out (fun hx => h.ne (List.mem_singleton.1 hx).symm), h.gex, h.gey, h.ne, h.below.trans (h3.out.below h.below.size (fun x hx => by rw [List.mem_singleton.1 hx]; exact h.gex))⟩⟩
theorem So.writeY (h : So w b cap gx gy dx dy F cur) (hF : F.length = 64) (i : Int) :
    Calls Try.prog 21 #[.pointer (some ⟨gy, 0, none⟩), .int .i64 i, .slice (some ⟨b, 0, none⟩) 64 cap] cur fun e w' => e = .returned (.int .i64 (DK.werr dy i 64)) ∧ Hid (So w b cap gx gy dx (DK.written dy i F) F w') := by
  have hw := Write_any h.y i (some ⟨b, 0, none⟩) F cap (bytes_pre h.bytes) (fun ad e => by injection e with e; subst e; exact h.nb.2)
  rw [hF] at hw
  exact hw.mono fun e w' ⟨h1, h2, h3⟩ => ⟨h1, Lib.hid ⟨h3.out.own h.own (fun k hk hx => h.nb.2 ((blk_of hk).symm.trans (List.mem_singleton.1 hx))), h.x.mod h3.out (fun hx => h.ne (List.mem_singleton.1 hx)), h2.out, h.gex, h.gey, h.ne, h.below.trans (h3.out.below h.below.size (fun x hx => by rw [List.mem_singleton.1 hx]; exact h.gey))⟩⟩
theorem So.conv (h : So w b cap gx gy dx dy F cur) (hF : F.length = 64) : (convert 35 9 (.slice (some ⟨b, 0, none⟩) 66 cap)).run Try.prog cur = .ok (.string ⟨(F ++ [91, 92]).toArray⟩) cur := By.conv_of (by rw [List.length_append, hF]; rfl) h.bytes
end
theorem cat_no (l : List UInt8) : (!l ++ [91, 92] == ((⟨l.toArray⟩ : ByteArray) ++ ⟨#[91, 92]⟩).toList) = false := by
  have e : ((⟨l.toArray⟩ : ByteArray) ++ ⟨([91, 92] : List UInt8).toArray⟩) = ⟨(l ++ [91, 92]).toArray⟩ := WideShapes.bytes_inj (by rw [ByteArray.data_append]; simp)
  rw [show (⟨#[91, 92]⟩ : ByteArray) = ⟨([91, 92] : List UInt8).toArray⟩ from rfl, e]
  simp
/-- An image that the call has made. -/
structure Rw (b : Nat) (ss : List (List UInt8)) (wr : World) : Prop where
  row : Whole wr b 35 (imgCells (b + 1) ss.length ss.length)
  each : ∀ (j : Nat) (x : List UInt8), ss[j]? = some x → Whole wr (b + 1 + j) 56 (u8s x).toArray
theorem Rw.of {w wr : World} {ss : List (List UInt8)} (h : Img w ss ss.length wr) : Rw w.heap.size ss wr := ⟨h.row, fun j x hx => h.each j x hx (List.getElem?_eq_some_iff.1 hx).1⟩
theorem Rw.mod {b : Nat} {ss : List (List UInt8)} {a c : World} {F : List Nat} (h : Rw b ss a) (hm : Mod F a c) (hF : ∀ x ∈ F, x < b) : Rw b ss c :=
  ⟨hm.whole h.row (fun hx => absurd (hF _ hx) (Nat.lt_irrefl _)), fun j x hx => hm.whole (h.each j x hx) (fun hy => by have := hF _ hy; omega)⟩
theorem Rw.below {b : Nat} {ss : List (List UInt8)} {a c : World} (h : Rw b ss a) (hb : Below a.heap.size a c) : Rw b ss c := h.mod (F := []) (Mod.of_below hb []) (by simp)
theorem Rw.cell {b : Nat} {ss : List (List UInt8)} {a : World} (h : Rw b ss a) {j : Nat} (hj : j < ss.length) : a.cell? ⟨b, j, none⟩ = some (.slice (some ⟨b + 1 + j, 0, none⟩) 64 64) := by
  rw [h.row.cell, imgCells_at hj]; rfl
theorem Rw.bytes {b : Nat} {ss : List (List UInt8)} {a : World} (h : Rw b ss a) {j : Nat} {x : List UInt8} (hx : ss[j]? = some x) : By.BytesAt a (some ⟨b + 1 + j, 0, none⟩) x := Whole.reads (h.each j x hx)
end Go.Proofs.Ytdagmkkkiaacoaa
