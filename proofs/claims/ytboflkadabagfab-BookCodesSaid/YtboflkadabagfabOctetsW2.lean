/- What a writer has laid down, handed out as a list of its own; a list of bytes copied. -/
import Derived.Test.YtboflkadabagfabOctA
import Derived.Lib.SliceRun
import Derived.StillTailTactics
namespace Go.Proofs.Ytboflkadabagfab.Oct
open Go.RowKit
set_option maxRecDepth 100000
/-- What is answered reads as these bytes and is the call's own; what was there stands. -/
def Fresh (w : World) (xs : List UInt8) (e : Ending) (w' : World) : Prop := ∃ v, e = .returned v ∧ w'.ownsRow w.heap.size 5 1 v xs.length (u8s xs) ∧ Below w.heap.size w w'
theorem BytesAt.cells {w : World} {ad : Addr} {xs : List UInt8} (h : BytesAt w (some ad) xs) : ∀ j u, (u8s xs)[j]? = some u → w.cell? (ad.add j) = some u := by
  intro j u hu
  unfold u8s at hu
  rw [List.getElem?_map] at hu
  obtain ⟨x, hx, rfl⟩ := Option.map_eq_some_iff.1 hu
  have h0 : 0 < xs.length := Nat.lt_of_le_of_lt (Nat.zero_le j) (List.getElem?_eq_some_iff.1 hx).1
  obtain ⟨b, o, e, hb, hc⟩ := h h0
  cases e
  rw [Addr.add_lit]
  exact hc j x hx
set_option maxHeartbeats 1000000 in
theorem Clone_nil (c : Nat) (w : World) : Calls Try.prog 76 #[.slice none 0 c] w (Fresh w []) := by
  have he := fun w : World => Lib.run_eql_slice_nil (P := Try.prog) w 29 5 none 0 c 0 0 Try.underlying29
  go_enter Try.func76, Try.ntmps76
  go_wp2
  go_ret
  exact ⟨_, rfl, World.ownsRow_nil _ _ _ _, Below.refl _ _⟩
set_option maxHeartbeats 1000000 in
theorem Clone_some (ad : Addr) (c : Nat) (xs : List UInt8) (w : World) (h : BytesAt w (some ad) xs) (hl : xs.length ≤ 140737488355328) :
    Calls Try.prog 76 #[.slice (some ad) xs.length c] w (Fresh w xs) := by
  obtain ⟨i0, hi, hz0, hz1, hz2⟩ := info_parts info_u8
  have H := Lib.hid h; clear h
  have he := fun w : World => Lib.run_eql_slice_nil (P := Try.prog) w 29 5 (some ad) xs.length c 0 0 Try.underlying29
  go_enter Try.func76, Try.ntmps76
  go_wp2_with (at_builtin; refine wpList_append_own_at _ rfl (.tmp 5) (.tmp 6) 29 rfl w.heap.size 5 i0 (.int .u8 0) 1 1 Try.underlying29 hi hz0 hz1 hz2 rfl (by decide) (.slice (some ⟨w.heap.size, 0, none⟩) 0 0) 0 [] rfl (World.ownsRow_lit w #[] 0 (Nat.le_refl _) (by decide) rfl) ad xs.length c (u8s xs) rfl (by rw [u8s_len, Nat.mul_one]) (H.out.below ((Below.refl _ w).alloc (Nat.le_refl _) _)).cells one_u8 (by unfold maxLen; omega) (by omega) (by simp) ?_; intro v1 w1 hown hgrow _ hat)
  have HO := Lib.hid hown; have HG := Lib.hid hgrow; clear hown hgrow hat
  go_wp2
  go_ret
  refine ⟨_, rfl, by simpa using HO.out, ((Below.refl _ w).alloc (Nat.le_refl _) _).grown HG.out (by simp) (fun k hk => by cases hk; exact Nat.le_refl _)⟩
theorem Clone_any (A : Option Addr) (c : Nat) (xs : List UInt8) (w : World) (h : BytesAt w A xs) (hl : xs.length ≤ 140737488355328) :
    Calls Try.prog 76 #[.slice A xs.length c] w (Fresh w xs) := by
  cases A with
  | some ad => exact Clone_some ad c xs w h hl
  | none =>
    have h0 : xs = [] := by
      cases xs with
      | nil => rfl
      | cons y r =>
        obtain ⟨b, o, e, _⟩ := h (by simp)
        cases e
    subst h0
    exact Clone_nil c w
set_option maxHeartbeats 1000000 in
theorem Bytes_any (a : Nat) (L : List UInt8) (F : List Nat) (w : World) (h : WAt w a L F) (hl : L.length ≤ 140737488355328) :
    Calls Try.prog 45 #[.pointer (some ⟨a, 0, none⟩)] w (Fresh w L) := by
  rcases h with ⟨rfl, rfl, h⟩ | ⟨p, g, cap, rfl, h1, h2, h3⟩
  · have h0 : w.cell? ⟨a, 0, none⟩ = some (.pointer none) := h.cell 0
    go_enter Try.func45, Try.ntmps45
    go_wp2
    go_ret
    exact ⟨_, rfl, World.ownsRow_nil _ _ _ _, Below.refl _ _⟩
  · have a0 : w.cell? ⟨a, 0, none⟩ = some (.pointer (some ⟨p, 0, none⟩)) := h1.cell 0
    have a1 : w.cell? ⟨a, 1, none⟩ = some (.int .i64 (L.length : Int)) := h1.cell 1
    have p0 : w.cell? ⟨p, 0, none⟩ = some (.slice (some ⟨g, 0, none⟩) L.length cap) := h2.cell 0
    have hcap : L.length ≤ cap := by
      rcases h3.2 with ⟨h, _⟩ | ⟨g', cap', cur, hv, _, _, hle, _⟩
      · cases h
      · cases hv; exact hle
    have H3 := Lib.hid (BytesAt.own h3); clear h1 h2 h3
    go_enter Try.func45, Try.ntmps45
    go_wp2_with fail
    go_still_tail 12, (by kernel_rfl)
    change wpList _ _ _ _ _ w.drew
    have HB : Below w.heap.size w w.drew := (Below.refl _ w).drew
    have HY : Hid (BytesAt w.drew (some ⟨g, 0, none⟩) L) := H3
    have hsz : w.drew.heap.size = w.heap.size := rfl
    have HS := Lib.hid hsz; clear hsz
    generalize w.drew = w2 at HB HY HS ⊢
    go_wp2_with (go_at_call 76; refine (Clone_any _ _ L _ HY.out hl).mono ?_; rintro e w3 ⟨v, rfl, hf1, hf2⟩)
    go_ret
    exact ⟨v, rfl, by rw [← HS.out]; exact hf1, HB.trans (by rw [← HS.out]; exact hf2)⟩
end Go.Proofs.Ytboflkadabagfab.Oct
