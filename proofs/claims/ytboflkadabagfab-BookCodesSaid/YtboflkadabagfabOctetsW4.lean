/- The reader's Text; the calls on no writer and no reader. -/
import Derived.Test.YtboflkadabagfabOctetsW3
import Derived.Laws.IdiomStrings
import Derived.Laws.BytesArg
namespace Go.Proofs.Ytboflkadabagfab.Oct
open Go.RowKit
set_option maxRecDepth 100000
/-- A list of bytes read as a text. -/
theorem str_of {w : World} {A : Option Addr} {c : Nat} {l : List UInt8} (h : BytesAt w A l) : (convert 29 9 (.slice A l.length c)).run Try.prog w = .ok (.string ⟨l.toArray⟩) w := by
  cases A with
  | some ad => 
    refine run_convert_bytes_back w _ _ 5 ad c l Try.underlying29 Try.underlying5 Try.underlying9 (fun j hj => ?_)
    exact h.cells j _ (by unfold u8s; rw [List.getElem?_map, List.getElem?_eq_getElem hj]; rfl)
  | none =>
    have h0 : l = [] := by
      cases l with
      | nil => rfl
      | cons y r =>
        obtain ⟨b, o, e, _⟩ := h (by simp)
        cases e
    subst h0
    exact run_convert_bytes_nil w _ 5 Try.underlying29 Try.underlying5 _ c _ Try.underlying9
theorem read_at {w : World} {r b n c c' : Nat} {l m : List UInt8} {e : Nat} {A A' : Option Addr} (K1 : Whole w r 118 #[.slice A l.length c, .int .i64 (e : Int)]) (hB : BytesAt w A' m) (hn : m.length = n) (h3 : n ≤ c') (h4 : c' ≤ 9223372036854775807) (hAb : ∀ ad : Addr, A' = some ad → ad.block = b) :
    Read w r b m e (w.setCell ⟨r, 0, none⟩ (.slice A' n c')) := by
  subst hn
  have hm : Mod [r] w (w.setCell ⟨r, 0, none⟩ (.slice A' m.length c')) := (Mod.refl _ _).store (.inl (by simp)) _
  exact ⟨⟨A', c', K1.store 0 _, hB.kept K1 (by intro k h; cases h) hm, h3, h4, hAb⟩, hm⟩
theorem text_rest {w : World} {b o s a : Nat} {l : List UInt8} (K2 : BytesAt w (some ⟨b, o, none⟩) l) : BytesAt w (some ⟨b, o + s + a, none⟩) (l.drop (s + a)) := fun h0 => by
  rw [List.length_drop] at h0
  obtain ⟨b', o', e, hb, hc⟩ := K2 (by omega)
  cases e
  refine ⟨b, o + s + a, rfl, hb, fun j x hx => ?_⟩
  rw [List.getElem?_drop] at hx
  have h := hc _ x hx
  rw [show o + s + a + j = o + (s + a + j) by omega]
  exact h
theorem text_cut {w : World} {r b o s a c : Nat} {l : List UInt8} {e : Nat} (K1 : Whole w r 118 #[.slice (some ⟨b, o, none⟩) l.length c, .int .i64 (e : Int)]) (K2 : BytesAt w (some ⟨b, o, none⟩) l) (hs : s ≤ l.length) (h3 : l.length ≤ c) (hcs : ¬ c = s) (hfit : a ≤ l.length - s) :
    ∀ (v : Value) (c' : Nat), (convert 29 9 (.slice (some ⟨b, o + s, none⟩) a c')).run Try.prog (w.setCell ⟨r, 0, none⟩ v) = .ok (.string ⟨((l.drop s).take a).toArray⟩) (w.setCell ⟨r, 0, none⟩ v) := by
  intro v c'
  have h1 := K2.cut (k := s) (c := c) hs h3
  rw [if_neg hcs] at h1
  have h2 : BytesAt w (some ⟨b, o + s, none⟩) (l.drop s) := by
    have e : Option.map (fun x : Addr => x.add s) (some ⟨b, o, none⟩) = some ⟨b, o + s, none⟩ := by
      show some ((⟨b, o, none⟩ : Addr).add s) = _
      rw [Addr.add_lit]
    rw [← e]
    exact h1
  have h3 := str_of (c := c') ((h2.front a).kept K1 (by intro k h; cases h) ((Mod.refl [r] w).store (p := ⟨r, 0, none⟩) (.inl (by simp)) v))
  have hl : ((l.drop s).take a).length = a := by rw [List.length_take, List.length_drop]; omega
  rw [hl] at h3
  exact h3
theorem rtext_ok {l : List UInt8} {a s : Nat} {most : Int} (h : OM.take l = (a, s, 0)) (h1 : (a : Int) ≤ max most 0) (h2 : a ≤ l.length - s) : OM.rtext l 0 most = ((l.drop s).take a, l.drop (s + a), 0) := by
  unfold OM.rtext
  rw [if_neg (by simp), h]
  simp only [ne_eq, not_true_eq_false, if_false]
  rw [if_neg (by omega), if_neg (by omega)]
theorem rtext_long {l : List UInt8} {a s : Nat} {most : Int} (h : OM.take l = (a, s, 0)) (h1 : max most 0 < (a : Int)) : OM.rtext l 0 most = ([], l, 21) := by
  unfold OM.rtext
  rw [if_neg (by simp), h]
  simp only [ne_eq, not_true_eq_false, if_false]
  rw [if_pos h1]
theorem rtext_short {l : List UInt8} {a s : Nat} {most : Int} (h : OM.take l = (a, s, 0)) (h1 : (a : Int) ≤ max most 0) (h2 : l.length - s < a) : OM.rtext l 0 most = ([], l, 20) := by
  unfold OM.rtext
  rw [if_neg (by simp), h]
  simp only [ne_eq, not_true_eq_false, if_false]
  rw [if_neg (by omega), if_pos h2]
theorem rtext_bad {l : List UInt8} {x : Nat} {most : Int} (h : OM.take l = (0, 0, x)) (hx : x ≠ 0) : OM.rtext l 0 most = ([], l, x) := by
  unfold OM.rtext
  rw [if_neg (by simp), h]
  simp [hx]
theorem rtext_stuck {l : List UInt8} {e : Nat} {most : Int} (h : e ≠ 0) : OM.rtext l e most = ([], l, e) := by
  unfold OM.rtext
  rw [if_pos h]
/-- What Text answers, and what it leaves. -/
def TextPost (w : World) (r bb : Nat) (l : List UInt8) (e : Nat) (most : Int) (x : Ending) (w' : World) : Prop := x = .returned (.string ⟨(OM.rtext l e most).1.toArray⟩) ∧ Read w r bb (OM.rtext l e most).2.1 (OM.rtext l e most).2.2 w'
theorem textPost {w w' : World} {r bb : Nat} {l : List UInt8} {e : Nat} {most : Int} {t : List UInt8} {m : List UInt8} {x : Nat} {s : ByteArray} (h : OM.rtext l e most = (t, m, x)) (hs : s = ⟨t.toArray⟩) (hr : Read w r bb m x w') : TextPost w r bb l e most (.returned (.string s)) w' := by
  unfold TextPost
  rw [h, hs]
  exact ⟨rfl, hr⟩
set_option maxHeartbeats 1000000 in
theorem RText_any (r bb : Nat) (l : List UInt8) (e : Nat) (most : Int) (w : World) (hmost : -9223372036854775808 ≤ most ∧ most ≤ 9223372036854775807) (h : RAt w r bb l e) :
    Calls Try.prog 81 #[.pointer (some ⟨r, 0, none⟩), .int .i64 most] w (TextPost w r bb l e most) := by
  have H := Lib.hid h
  obtain ⟨A, c, h1, h2, h3, h4, h5⟩ := h
  have c0 : w.cell? ⟨r, 0, none⟩ = some (.slice A l.length c) := h1.cell 0
  have c1 : w.cell? ⟨r, 1, none⟩ = some (.int .i64 (e : Int)) := h1.cell 1
  have f0 := h1.frozen 0
  have f1 := h1.frozen 1
  have K1 := Lib.hid h1; have K2 := Lib.hid h2; have K5 := Lib.hid h5; clear h1 h2 h5
  by_cases he : e = 0
  · subst he
    have c1 : w.cell? ⟨r, 1, none⟩ = some (.int .i64 0) := c1
    rcases OM.take_err l with ⟨a, s, ht⟩ | ht | ht
    · have hs := OM.take_le ht
      have ha := (OM.take_one ht).1
      have T := Lib.hid ht; clear ht
      obtain ⟨b, o, hA, _, _⟩ := K2.out (by have := OM.enc_pos a; have := (OM.take_one T.out).2.1; omega)
      subst hA
      by_cases hneg : most < 0
      · have HM := Lib.hid (show (0 : Int) = max most 0 by omega)
        by_cases hlong : 0 < (a : Int)
        · go_enter Try.func81, Try.ntmps81
          go_wp2_with (first
            | (go_at_call 79; refine (Err_any r bb l 0 _ H.out).mono ?_; rintro x w' ⟨rfl, rfl⟩)
            | (go_at_call 80; refine (number_any _ _ l _ K2.out (by omega)).mono ?_; rintro x w' ⟨rfl, rfl⟩; rw [T.out]))
          all_goals
            first
              | (exfalso; omega)
              | (go_ret; exact textPost (rtext_long T.out (by rw [← HM.out]; exact hlong)) rfl (read_err K1.out K2.out h3 h4 K5.out))
        · have hin : (a : Int) ≤ 0 := by omega
          have HI := Lib.hid hin
          by_cases hshort : l.length - s < a
          · have hsh : ((l.length - s : Nat) : Int) < (a : Int) := by omega
            go_enter Try.func81, Try.ntmps81
            go_wp2_with (first
              | (go_at_call 79; refine (Err_any r bb l 0 _ H.out).mono ?_; rintro x w' ⟨rfl, rfl⟩)
              | (go_at_call 80; refine (number_any _ _ l _ K2.out (by omega)).mono ?_; rintro x w' ⟨rfl, rfl⟩; rw [T.out]))
            all_goals
              first
                | (exfalso; omega)
                | (go_ret; exact textPost (rtext_short T.out (by rw [← HM.out]; exact HI.out) hshort) rfl (read_err K1.out K2.out h3 h4 K5.out))
          · have hfit : a ≤ l.length - s := by omega
            have hfi : (a : Int) ≤ ((l.length - s : Nat) : Int) := by omega
            by_cases hcs : c = s
            · have ha0 : a = 0 := by omega
              subst ha0
              subst hcs
              have hS : ∀ (w' : World) (A : Option Addr) (c' : Nat), (convert 29 9 (.slice A 0 c')).run Try.prog w' = .ok (.string ⟨#[]⟩) w' := fun w' A c' => str_of (c := c') (BytesAt.nil w' A)
              go_enter Try.func81, Try.ntmps81
              go_wp2_with (first
                | (go_at_call 79; refine (Err_any r bb l 0 _ H.out).mono ?_; rintro x w' ⟨rfl, rfl⟩)
                | (go_at_call 80; refine (number_any _ _ l _ K2.out (by omega)).mono ?_; rintro x w' ⟨rfl, rfl⟩; rw [T.out]))
              all_goals
                go_ret
                refine textPost (rtext_ok T.out (by rw [← HM.out]; exact HI.out) hfit) (by rw [List.take_zero]) (read_at K1.out ?_ (by rw [List.length_drop]; omega) (by omega) (by omega) (fun ad h => by cases h; exact K5.out ⟨b, o, none⟩ rfl))
                rw [show List.drop (c + 0) l = [] from List.drop_of_length_le (by omega)]
                exact BytesAt.nil _ _
            · have hS := text_cut (a := a) K1.out K2.out hs h3 hcs hfit
              go_enter Try.func81, Try.ntmps81
              go_wp2_with (first
                | (go_at_call 79; refine (Err_any r bb l 0 _ H.out).mono ?_; rintro x w' ⟨rfl, rfl⟩)
                | (go_at_call 80; refine (number_any _ _ l _ K2.out (by omega)).mono ?_; rintro x w' ⟨rfl, rfl⟩; rw [T.out]))
              all_goals
                go_ret
                refine textPost (rtext_ok T.out (by rw [← HM.out]; exact HI.out) hfit) rfl (read_at K1.out ?_ (by rw [List.length_drop]; omega) (by omega) (by omega) (fun ad h => by cases h; exact K5.out ⟨b, o, none⟩ rfl))
                first
                  | exact text_rest K2.out
                  | (rw [show List.drop (s + a) l = [] from List.drop_of_length_le (by omega)]; exact BytesAt.nil _ _)
      · have hpos : 0 ≤ most := by omega
        have HM := Lib.hid (show most = max most 0 by omega)
        by_cases hlong : most < (a : Int)
        · go_enter Try.func81, Try.ntmps81
          go_wp2_with (first
            | (go_at_call 79; refine (Err_any r bb l 0 _ H.out).mono ?_; rintro x w' ⟨rfl, rfl⟩)
            | (go_at_call 80; refine (number_any _ _ l _ K2.out (by omega)).mono ?_; rintro x w' ⟨rfl, rfl⟩; rw [T.out]))
          all_goals
            first
              | (exfalso; omega)
              | (go_ret; exact textPost (rtext_long T.out (by rw [← HM.out]; exact hlong)) rfl (read_err K1.out K2.out h3 h4 K5.out))
        · have hin : (a : Int) ≤ most := by omega
          have HI := Lib.hid hin
          by_cases hshort : l.length - s < a
          · have hsh : ((l.length - s : Nat) : Int) < (a : Int) := by omega
            go_enter Try.func81, Try.ntmps81
            go_wp2_with (first
              | (go_at_call 79; refine (Err_any r bb l 0 _ H.out).mono ?_; rintro x w' ⟨rfl, rfl⟩)
              | (go_at_call 80; refine (number_any _ _ l _ K2.out (by omega)).mono ?_; rintro x w' ⟨rfl, rfl⟩; rw [T.out]))
            all_goals
              first
                | (exfalso; omega)
                | (go_ret; exact textPost (rtext_short T.out (by rw [← HM.out]; exact HI.out) hshort) rfl (read_err K1.out K2.out h3 h4 K5.out))
          · have hfit : a ≤ l.length - s := by omega
            have hfi : (a : Int) ≤ ((l.length - s : Nat) : Int) := by omega
            by_cases hcs : c = s
            · have ha0 : a = 0 := by omega
              subst ha0
              subst hcs
              have hS : ∀ (w' : World) (A : Option Addr) (c' : Nat), (convert 29 9 (.slice A 0 c')).run Try.prog w' = .ok (.string ⟨#[]⟩) w' := fun w' A c' => str_of (c := c') (BytesAt.nil w' A)
              go_enter Try.func81, Try.ntmps81
              go_wp2_with (first
                | (go_at_call 79; refine (Err_any r bb l 0 _ H.out).mono ?_; rintro x w' ⟨rfl, rfl⟩)
                | (go_at_call 80; refine (number_any _ _ l _ K2.out (by omega)).mono ?_; rintro x w' ⟨rfl, rfl⟩; rw [T.out]))
              all_goals
                go_ret
                refine textPost (rtext_ok T.out (by rw [← HM.out]; exact HI.out) hfit) (by rw [List.take_zero]) (read_at K1.out ?_ (by rw [List.length_drop]; omega) (by omega) (by omega) (fun ad h => by cases h; exact K5.out ⟨b, o, none⟩ rfl))
                rw [show List.drop (c + 0) l = [] from List.drop_of_length_le (by omega)]
                exact BytesAt.nil _ _
            · have hS := text_cut (a := a) K1.out K2.out hs h3 hcs hfit
              go_enter Try.func81, Try.ntmps81
              go_wp2_with (first
                | (go_at_call 79; refine (Err_any r bb l 0 _ H.out).mono ?_; rintro x w' ⟨rfl, rfl⟩)
                | (go_at_call 80; refine (number_any _ _ l _ K2.out (by omega)).mono ?_; rintro x w' ⟨rfl, rfl⟩; rw [T.out]))
              all_goals
                go_ret
                refine textPost (rtext_ok T.out (by rw [← HM.out]; exact HI.out) hfit) rfl (read_at K1.out ?_ (by rw [List.length_drop]; omega) (by omega) (by omega) (fun ad h => by cases h; exact K5.out ⟨b, o, none⟩ rfl))
                first
                  | exact text_rest K2.out
                  | (rw [show List.drop (s + a) l = [] from List.drop_of_length_le (by omega)]; exact BytesAt.nil _ _)
    all_goals
      have T := Lib.hid ht; clear ht
      go_enter Try.func81, Try.ntmps81
      go_wp2_with (first
        | (go_at_call 79; refine (Err_any r bb l 0 _ H.out).mono ?_; rintro x w' ⟨rfl, rfl⟩)
        | (go_at_call 80; refine (number_any A c l _ K2.out (by omega)).mono ?_; rintro x w' ⟨rfl, rfl⟩; rw [T.out]))
      all_goals
        go_ret
        exact textPost (rtext_bad T.out (by decide)) rfl (read_err K1.out K2.out h3 h4 K5.out)
  · have he' : ¬ (e : Int) = 0 := by omega
    go_enter Try.func81, Try.ntmps81
    go_wp2_with (go_at_call 79; refine (Err_any r bb l e _ H.out).mono ?_; rintro x w' ⟨rfl, rfl⟩)
    go_ret
    exact textPost (rtext_stuck he) rfl (Read.id H.out)
theorem lay_nil (v : Value) (w : World) : Calls Try.prog 74 #[.pointer none, v] w fun e w' => e = .returned (.tuple #[]) ∧ w = w' := by
  go_enter Try.func74, Try.ntmps74
  go_wp2
  refine bodyPost_ret (results_none rfl _ _ _) rfl ?_
  exact ⟨rfl, rfl⟩
set_option maxHeartbeats 1000000 in
theorem Num_nil (w : World) : Calls Try.prog 41 #[.pointer none, .int .i64 1] w fun e w' => e = .returned (.tuple #[]) ∧ w = w' := by
  go_enter Try.func41, Try.ntmps41
  go_wp2_with fail
  go_loop [1] (fun i => i = .int .i64 1) (fun _ => 0)
  case atStart => rfl
  case round =>
    subst hrel
    go_wp2_with (go_at_call 74; refine (lay_nil _ _).mono ?_; rintro e w2 ⟨rfl, rfl⟩)
    go_end0
    exact ⟨rfl, rfl⟩
set_option maxHeartbeats 1000000 in
theorem eachByte_nil (w : World) : Calls Try.prog 93 #[.string ⟨#[97]⟩, .func (Fn.func 74) #[.pointer none] #[]] w fun e w' => e = .returned (.tuple #[]) ∧ w = w' := by
  go_enter Try.func93, Try.ntmps93
  go_wp2_with fail
  go_loop [7] (fun i => ∃ k : Nat, k ≤ 1 ∧ i = .int .i64 (k : Int)) (fun i => 1 - (intOf i).toNat)
  case atStart => exact ⟨0, by omega, rfl⟩
  case round =>
    obtain ⟨k, hk, rfl⟩ := hrel
    by_cases h : k < 1
    · have e0 : k = 0 := by omega
      subst e0
      go_wp2_with (go_at_call 74; refine (lay_nil _ _).mono ?_; rintro e w2 ⟨rfl, rfl⟩)
      go_round
      case rel => exact ⟨1, by omega, rfl⟩
      case measure => decide
    · have e1 : k = 1 := by omega
      subst e1
      go_wp2_with fail
      go_end0
      exact ⟨rfl, rfl⟩
set_option maxHeartbeats 1000000 in
theorem Text_nil (w : World) : Calls Try.prog 75 #[.pointer none, .string ⟨#[97]⟩] w fun e w' => e = .returned (.tuple #[]) ∧ w = w' := by
  go_enter Try.func75, Try.ntmps75
  go_wp2_with (go_at_call 41; refine (Num_nil _).mono ?_; rintro e w2 ⟨rfl, rfl⟩)
  refine (eachByte_nil _).mono ?_
  rintro e w2 ⟨rfl, rfl⟩
  go_wp2
  go_end0
  exact ⟨rfl, rfl⟩
theorem Bytes_nil (w : World) : Calls Try.prog 45 #[.pointer none] w fun e w' => e = .returned (.slice none 0 0) ∧ w = w' := by
  go_enter Try.func45, Try.ntmps45
  go_wp2
  go_ret
  exact ⟨rfl, rfl⟩
theorem Err_nil (w : World) : Calls Try.prog 79 #[.pointer none] w fun e w' => e = .returned (.int .i64 1) ∧ w = w' := by
  go_enter Try.func79, Try.ntmps79
  go_wp2
  go_ret
  exact ⟨rfl, rfl⟩
theorem RNum_nil (w : World) : Calls Try.prog 55 #[.pointer none] w fun e w' => e = .returned (.int .i64 0) ∧ w = w' := by
  go_enter Try.func55, Try.ntmps55
  go_wp2_with (go_at_call 79; refine (Err_nil _).mono ?_; rintro e w2 ⟨rfl, rfl⟩)
  go_ret
  exact ⟨rfl, rfl⟩
theorem RText_nil (w : World) : Calls Try.prog 81 #[.pointer none, .int .i64 3] w fun e w' => e = .returned (.string ⟨#[]⟩) ∧ w = w' := by
  go_enter Try.func81, Try.ntmps81
  go_wp2_with (go_at_call 79; refine (Err_nil _).mono ?_; rintro e w2 ⟨rfl, rfl⟩)
  go_ret
  exact ⟨rfl, rfl⟩
end Go.Proofs.Ytboflkadabagfab.Oct
