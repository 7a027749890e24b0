/- Lists of bytes: copied, cut, grown by one byte. -/
import Derived.Test.YtlnahmgcjaodkaaBytes
import Derived.WalkKit
import Derived.WalkSpells
import Derived.WalkLawsBesides
import Derived.WalkMore
import Derived.StillTactics
import Derived.RegionTactic
import Derived.Deep.QuietTactic
import Derived.BigQuiet
import Derived.Lib.Hide
import Derived.Lib.Strings
import Derived.Deep.RegionHeld3
import Derived.Deep.RegionLaw
import Derived.Deep.AppendLies
import Derived.Deep.DeepCutAuto
import Derived.Laws.AppendOwnNone
import Derived.Laws.BitsAllLaws
import Derived.Laws.BytesString
import Derived.KernelRfl
import Derived.Lib.SliceRun
import Derived.Maps.AppendAt
namespace Go.Proofs.Ytlnahmgcjaodkaa
open Go.RowKit
open By
set_option linter.unusedVariables false
set_option linter.unusedSimpArgs false
set_option maxRecDepth 100000
set_option maxHeartbeats 1000000 in
theorem Clone_nil (c : Nat) (w : World) : Calls Try.prog 28 #[.slice none 0 c] w (Fresh w []) := by
  have he := fun w : World => Lib.run_eql_slice_nil (P := Try.prog) w 26 5 none 0 c 0 0 Try.underlying26
  go_enter Try.func28, Try.ntmps28
  go_wp2
  go_ret
  exact ⟨_, rfl, World.ownsRow_nil _ _ _ _, Below.refl _ _⟩
set_option maxHeartbeats 1000000 in
theorem Clone_some (ad : Addr) (c : Nat) (xs : List UInt8) (w : World) (h : BytesAt w (some ad) xs) (hl : xs.length ≤ 140737488355328) :
    Calls Try.prog 28 #[.slice (some ad) xs.length c] w (Fresh w xs) := by
  obtain ⟨i0, hi, hz0, hz1, hz2⟩ := info_parts info_u8
  have H := Lib.hid h; clear h
  have he := fun w : World => Lib.run_eql_slice_nil (P := Try.prog) w 26 5 (some ad) xs.length c 0 0 Try.underlying26
  go_enter Try.func28, Try.ntmps28
  go_wp2_with (at_builtin; refine wpList_append_own_at _ rfl (.tmp 5) (.tmp 6) 26 rfl w.heap.size 5 i0 (.int .u8 0) 1 1 Try.underlying26 hi hz0 hz1 hz2 rfl (by decide) (.slice (some ⟨w.heap.size, 0, none⟩) 0 0) 0 [] rfl (World.ownsRow_lit w #[] 0 (Nat.le_refl _) (by decide) rfl) ad xs.length c (u8s xs) rfl (by rw [u8s_len, Nat.mul_one]) (H.out.below ((Below.refl _ w).alloc (Nat.le_refl _) _)).cells one_u8 (by unfold maxLen; omega) (by omega) (by simp) ?_; intro v1 w1 hown hgrow _ hat)
  have HO := Lib.hid hown; have HG := Lib.hid hgrow; clear hown hgrow hat
  go_wp2
  go_ret
  refine ⟨_, rfl, by simpa using HO.out, ((Below.refl _ w).alloc (Nat.le_refl _) _).grown HG.out (by simp) (fun k hk => by cases hk; exact Nat.le_refl _)⟩
theorem Clone_any (A : Option Addr) (c : Nat) (xs : List UInt8) (w : World) (h : BytesAt w A xs) (hl : xs.length ≤ 140737488355328) :
    Calls Try.prog 28 #[.slice A xs.length c] w (Fresh w xs) := by
  cases A with
  | some ad => exact Clone_some ad c xs w h hl
  | none =>
    have h0 : xs = [] := by
      cases xs with
      | nil => rfl
      | cons y r =>
        obtain ⟨b, o, e, _⟩ := h (by simp)
        cases e
    subst h0
    exact Clone_nil c w
theorem bytesAt_cut {w : World} {A : Option Addr} {l : List UInt8} (h : BytesAt w A l) {k c : Nat} (hk : k ≤ l.length) (hc : l.length ≤ c) : BytesAt w (if c = k then A else A.map (·.add k)) (l.drop k) := fun h0 => by
  rw [List.length_drop] at h0
  obtain ⟨b, o, e, hb, hcc⟩ := h (by omega)
  subst e
  refine ⟨b, o + k, ?_, hb, fun j x hx => ?_⟩
  · rw [if_neg (by omega)]
    show some ((⟨b, o, none⟩ : Addr).add k) = _
    rw [Addr.add_lit]
  · rw [List.getElem?_drop] at hx
    rw [Nat.add_assoc]
    exact hcc _ x hx
theorem bytesAt_front {w : World} {A : Option Addr} {l : List UInt8} (h : BytesAt w A l) (k : Nat) : BytesAt w A (l.take k) := fun h0 => by
  rw [List.length_take] at h0
  obtain ⟨b, o, e, hb, hc⟩ := h (by omega)
  refine ⟨b, o, e, hb, fun j x hx => hc j x ?_⟩
  rw [List.getElem?_take] at hx
  split at hx
  · exact hx
  · cases hx
/-- What the call itself has grown holds these bytes. -/
def Grew (w : World) (xs : List UInt8) (v : Value) (w' : World) : Prop := w'.ownsRow w.heap.size 5 1 v xs.length (u8s xs) ∧ Below w.heap.size w w'
theorem Grew.nil (w : World) : Grew w [] (.slice none 0 0) w := ⟨World.ownsRow_nil _ _ _ _, Below.refl _ _⟩
theorem one_one {c : UInt8} : ∀ u ∈ [u8 c], u.oneCell' = true := by
  intro u hu
  have e : u = u8 c := by simpa using hu
  rw [e]; rfl
/-- One byte put behind what the call itself has grown. -/
theorem app_one {w w1 : World} {ops : Array Oper} {rest : List Oper} {o : Oper} {a : Act} {Q : Exit → Act → World → Prop} (hgd : o.guard = none) (s x : Operand)
    (ho : o.op = .call { callee := .builtin .append, args := #[s, x], argTypes := #[26, 26] })
    (v : Value) (pre : List UInt8) (hG : Grew w pre v w1) (hs : a.eval s = v) (k : Int) (c : UInt8) (hk : k = (c.toNat : Int)) (hx : a.eval x = .slice (some ⟨w1.heap.size, 0, none⟩) 1 1) (hl : pre.length + 1 ≤ 140737488355328)
    (h : ∀ v' w2, Grew w (pre ++ [c]) v' w2 → wpList Try.prog ops Q rest (a.put o.dst v') w2) : wpList Try.prog ops Q (o :: rest) a (w1.alloc (.cells #[.int .u8 k] 5)) := by
  obtain ⟨i0, hi, hz0, hz1, hz2⟩ := info_parts info_u8
  subst hk
  refine wpList_append_own_at _ hgd s x 26 ho w.heap.size 5 i0 (.int .u8 0) 1 1 Try.underlying26 hi hz0 hz1 hz2 rfl (by decide) v pre.length (u8s pre) hs (hG.1.alloc _) ⟨w1.heap.size, 0, none⟩ 1 1 [u8 c] hx rfl
    (World.news_of_block (cs := #[u8 c]) (t := 5) (fr := (0, 0)) (heap_alloc_new w1 _)) one_one (by unfold maxLen; omega) (by omega) (by have := hG.2.size; rw [World.size_alloc]; omega) ?_
  intro v' w2 hown hgrow _ _
  refine h v' w2 ⟨by rw [List.length_append, u8s_append]; exact hown, (hG.2.alloc hG.2.size _).grown hgrow ?_ (fun k hk => (hG.1.lt k hk).1)⟩
  have := hG.2.size
  rw [World.size_alloc]
  omega
theorem results_tmp_cell {fn : Func} {p u : Tmp} {ty : TypeId} (h : fn.results = #[.tmp u, .cell p ty]) (tmps : Array Value) (P : Program) (w : World) :
    (results fn tmps).run P w =
      ((asAddr (tmps.getD p undef)).run P w).andThen fun a w₁ => ((loadVar ty a).run P w₁).andThen fun v w₂ => .ok (.tuple #[tmps.getD u undef, v]) w₂ := by
  simp only [results, h]
  simp [Sem.run_bind, Result.andThen]
end Go.Proofs.Ytlnahmgcjaodkaa
