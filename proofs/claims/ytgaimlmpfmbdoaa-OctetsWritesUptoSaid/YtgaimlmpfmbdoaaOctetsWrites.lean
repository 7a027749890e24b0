/- Whatever things are laid down, the bytes are those that the document says, behind every call; for every list of things of bulk at most 1048576 (beyond 2^48 bytes in all an append ends the call). -/
import Derived.Test.YtgaimlmpfmbdoaaOctetsW14
import Derived.Test.YtgaimlmpfmbdoaaLawBare
import Derived.JoinedCond
import Derived.OpenShut
namespace Go.Proofs.Ytgaimlmpfmbdoaa.lawOctetsWrites
open Go Go.RowKit Go.ChangeShapes Go.WideShapes Go.ChangeAt
set_option linter.unusedVariables false
set_option linter.unusedSimpArgs false
theorem RefText_in {s : ByteArray} {w : World} (hs : s.size ≤ 140737488351232) : Calls Try.prog 18 #[.string s] w (Gave w (OM.encT s.data.toList)) := (RefText_any s w hs).mono fun _ _ h => gave_of h
theorem RefNum_in {n : Int} {w : World} (hn : -9223372036854775808 ≤ n ∧ n ≤ 9223372036854775807) : Calls Try.prog 19 #[.int .i64 n] w (Gave w (OM.enc n.toNat)) := (RefNum_any n w hn).mono fun _ _ h => gave_of h
theorem thing_size {xs : List Thing} {k : Nat} (h : k < xs.length) : (encThing xs[k]).length ≤ (things xs).length := by
  have h1 := things_le xs (k + 1)
  rw [things_take h, List.length_append] at h1
  omega
theorem text_size {x : Thing} (h : x.t = true) : x.s.size ≤ (encThing x).length := by
  rw [enc_text h]
  unfold OM.encT
  rw [List.length_append]
  show x.s.size ≤ _ + x.s.size
  omega
theorem ThingsAt.one {N : Nat} {w : World} {b o : Nat} {xs : List Thing} {k : Nat} (h : ThingsAt N w (some ⟨b, o, none⟩) xs) (hk : k < xs.length) : ThingsAt N w (some ⟨b, o + k * 3, none⟩) [xs[k]] := fun _ => by
  obtain ⟨b', o', e, hb, hc⟩ := h (by omega)
  cases e
  refine ⟨b, o + k * 3, rfl, hb, fun j x hx => ?_⟩
  have hj : j = 0 := by
    have := (List.getElem?_eq_some_iff.1 hx).1
    simpa using this
  subst hj
  have hx' : xs[k] = x := by simpa using hx
  subst hx'
  have := hc k _ (List.getElem?_eq_getElem hk)
  rw [Nat.zero_mul, Nat.add_zero]
  exact this
theorem encT_pos (l : List UInt8) : 0 < (OM.encT l).length := by
  unfold OM.encT
  rw [List.length_append]
  have := OM.enc_pos l.length
  omega
theorem addr_of {w : World} {A : Option Addr} {xs : List UInt8} (h : BytesAt w A xs) (h0 : 0 < xs.length) : ∃ ad, A = some ad := by
  obtain ⟨b, o, e, _⟩ := h h0
  exact ⟨_, e⟩
/-- Behind the append onto what has been gathered. -/
theorem gath_app {w0 w w2 : World} {a : Nat} {L M L' : List UInt8} {v v' : Value} {m : Nat} (hO : w.ownsRow w0.heap.size 5 1 v L.length (u8s L)) (hW : WIn w0.heap.size v.ownBlock.toList a L' w) (hB : Below w0.heap.size w0 w)
    (hm : m = M.length) (hown : w2.ownsRow w0.heap.size 5 1 v' (L.length + m) (u8s L ++ u8s M)) (hg : w.grownBy w2 v.ownBlock) (hat : v'.ownBlock = v.ownBlock ∨ v'.ownBlock = some w.heap.size) :
    w2.ownsRow w0.heap.size 5 1 v' (L ++ M).length (u8s (L ++ M)) ∧ WIn w0.heap.size v'.ownBlock.toList a L' w2 ∧ Below w0.heap.size w0 w2 := by
  subst hm
  refine ⟨by rw [List.length_append, u8s_append]; exact hown, ?_, hB.grown hg hB.size (fun k hk => (hO.lt k hk).1)⟩
  have h1 : WIn w0.heap.size (v.ownBlock.toList ++ v'.ownBlock.toList) a L' w := hW.rekey fun x hx => by
    rcases List.mem_append.1 hx with h | h
    · exact .inl h
    · rcases hat with e | e
      · rw [e] at h; exact .inl h
      · rw [e] at h
        have : x = w.heap.size := by simpa using h
        exact .inr (by omega)
  have h2 := h1.mod (Mod.grown (Mod.refl v.ownBlock.toList w) hg (fun k hk => .inl (by rw [hk]; simp))) (fun x hx => .inl (List.mem_append.2 (.inl hx)))
  exact h2.rekey fun x hx => .inl (List.mem_append.2 (.inr hx))
/-- What has been gathered so far, on a row of the call's own that the writer does not use. -/
def Gathered (w0 : World) (a : Nat) (L : List UInt8) (v : Value) (wx : World) : Prop :=
  wx.ownsRow w0.heap.size 5 1 v L.length (u8s L) ∧ WIn w0.heap.size v.ownBlock.toList a L wx ∧ Below w0.heap.size w0 wx
theorem Gathered.drew {w0 w : World} {a : Nat} {L : List UInt8} {v : Value} (h : Gathered w0 a L v w) : Gathered w0 a L v w.drew :=
  ⟨h.1, h.2.1, ⟨h.2.2.os, h.2.2.tape, h.2.2.output, h.2.2.size, h.2.2.block⟩⟩
theorem Gathered.below {w0 w w' : World} {a : Nat} {L : List UInt8} {v : Value} (h : Gathered w0 a L v w) (hb : Below w.heap.size w w') : Gathered w0 a L v w' :=
  ⟨Mod.own (Mod.of_below hb []) h.1 (by simp), h.2.1.below hb, h.2.2.trans (hb.mono h.2.2.size)⟩
set_option maxRecDepth 100000 in
set_option maxHeartbeats 8000000 in
theorem walk (B : Option Addr) (d : Nat) (xs : List Thing) (w : World)
    (hT : ThingsAt w.heap.size w B xs) (hd : xs.length ≤ d) (hdm : d ≤ 9223372036854775807) (hF : ∀ x ∈ xs, Fair x) (hroom : (things xs).length ≤ 10485760) :
    Calls Try.prog 4 #[.slice B xs.length d] w (LK.True_ w) := by
  have HT := Lib.hid hT; clear hT
  have HF := Lib.hid hF; clear hF
  go_enter Try.func4, Try.ntmps4
  go_wp2_with fail
  refine (awake_any _).mono ?_
  rintro e w1 ⟨rfl, hb⟩
  have HB1 := Lib.hid hb
  clear hb
  have HG : Hid (Gathered w w1.heap.size [] (.slice none 0 0) (w1.alloc (Obj.cells #[.pointer none, .int .i64 0] 24))) :=
    Lib.hid ⟨World.ownsRow_nil _ _ _ _, WIn.fresh HB1.out.size (by simp [Value.ownBlock]), HB1.out.alloc HB1.out.size _⟩
  go_wp2_with fail
  generalize w1.alloc (Obj.cells #[.pointer none, .int .i64 0] 24) = w2 at HG ⊢
  generalize w1.heap.size = a at HG ⊢
  go_loopw [12, 4] (fun i v wx => ∃ (k : Nat), i = .int .i64 (k : Int) ∧ k ≤ xs.length ∧ Gathered w a (things (xs.take k)) v wx) (fun i _ _ => xs.length - (intOf i).toNat)
  case atStart => exact ⟨0, rfl, by omega, HG.out⟩
  case round =>
    obtain ⟨k, rfl, hk, hG⟩ := hrel
    have HQ := Lib.hid hG; clear hG
    have hle := things_le xs k
    by_cases hlt : k < xs.length
    · --round
      obtain ⟨hown, hW, hBw⟩ := HQ.out
      obtain ⟨Av, cv, hv, hv1, hv2⟩ := own_shape hown
      subst hv
      have HO := Lib.hid hown; have HW := Lib.hid hW; have HBw := Lib.hid hBw
      clear hown hW hBw HQ
      obtain ⟨tb, to_, hT0, htb, htc⟩ := HT.out.below HBw.out (by omega)
      subst hT0
      have HT1 := Lib.hid (ThingsAt.one (HT.out.below HBw.out) hlt)
      have HTk := Lib.hid (things_take hlt)
      have hle1 := things_le xs (k + 1)
      have hroom1 : (things (xs.take k) ++ things [xs[k]]).length ≤ 140737488355328 := by
        have e : things [xs[k]] = encThing xs[k] := by simp [things]
        rw [e, ← HTk.out]; omega
      clear htc
      go_wp2_with fail
      refine (lawlay_any (xs := [xs[k]]) (d - k) HW.out HBw.out.size (fun x hx => (HO.out.lt x (by simpa using hx)).2) HT1.out (by simp) (fun x hx => HF.out x (by rw [List.mem_singleton.1 hx]; exact List.getElem_mem hlt)) hroom1).mono ?_
      rintro e w6 ⟨rfl, h1, h2⟩
      have HO6 := Lib.hid (h2.own HO.out (fun x hx => by rw [hx]; simp))
      have HW6 := Lib.hid h1
      have HB6 := Lib.hid (HBw.out.trans (h2.belowN HBw.out.size))
      clear h1 h2
      obtain ⟨tb', to', hT0, htb', htc⟩ := HT.out.below HB6.out (by omega)
      cases hT0
      obtain ⟨t0, t1, t2⟩ := htc k xs[k] (List.getElem?_eq_getElem hlt)
      obtain ⟨hf1, hf2⟩ := HF.out xs[k] (List.getElem_mem hlt)
      have hsz := thing_size hlt
      have htx := text_size (x := xs[k])
      have HE := Lib.hid (show things [xs[k]] = encThing xs[k] by simp [things])
      clear htc
      generalize xs[k] = x at t0 t1 t2 hf1 hf2 hsz htx HE HTk HW6
      have hsum : (things (xs.take k)).length + (encThing x).length ≤ 10485760 := by rw [← List.length_append, ← HTk.out]; omega
      obtain ⟨t, n, s⟩ := x
      simp only at t0 t1 t2 hf1 hf2
      cases t with
      | true =>
        have HM := Lib.hid (show encThing ⟨true, n, s⟩ = OM.encT s.data.toList from enc_text rfl)
        have HW6' := Lib.hid (show WIn w.heap.size (Value.slice Av (things (xs.take k)).length cv).ownBlock.toList a (things (xs.take k) ++ OM.encT s.data.toList) w6 from by have h := HW6.out; rw [HE.out, HM.out] at h; exact h)
        have hts : s.size ≤ (OM.encT s.data.toList).length := by have h := htx rfl; rw [HM.out] at h; exact h
        rw [HM.out] at hsum hsz
        clear htx
        clear HE HW6
        go_wp2_with fail
        refine (RefText_in (by omega)).mono ?_
        rintro e w7 ⟨A7, n7, c7, rfl, HN7, HX7, -, HF7, k7, k7', -⟩
        obtain ⟨ad7, hA7⟩ := addr_of HX7.out (encT_pos _)
        subst hA7
        have HO7 := Lib.hid (Mod.own (Mod.of_below HF7.out []) HO6.out (by simp))
        have HW7 := Lib.hid (HW6'.out.below HF7.out)
        have HB7 := Lib.hid (HB6.out.trans (HF7.out.mono HB6.out.size))
        have hn7 := Nat.le_of_eq HN7.out
        obtain ⟨i0, hi, hz0, hz1, hz2⟩ := info_parts info_u8
        go_wp2_with (at_builtin; refine wpList_append_own_at _ rfl (.tmp 27) (.tmp 33) 28 rfl w.heap.size 5 i0 (.int .u8 0) 1 1 Try.underlying28 hi hz0 hz1 hz2 rfl (by decide) (.slice Av (things (xs.take k)).length cv) (things (xs.take k)).length (u8s (things (xs.take k))) rfl HO7.out ad7 n7 c7 (u8s (OM.encT s.data.toList)) rfl (by rw [u8s_len, Nat.mul_one]; exact HN7.out.symm) HX7.out.cells one_u8 (by unfold maxLen; omega) (by omega) HB7.out.size ?_; intro v8 w8 hown8 hgrow8 _ hat8; have HG8 := Lib.hid (gath_app HO7.out HW7.out HB7.out HN7.out hown8 hgrow8 hat8); clear hown8 hgrow8 hat8 hi hz0 hz1 hz2)
        have HG9 : Hid (Gathered w a (things (xs.take (k + 1))) v8 w8) := Lib.hid (by rw [HTk.out, HM.out]; exact HG8.out)
        clear HG8 HM HO7 HW7 HB7 HX7 HF7 HN7 HO6 HW6' HB6
        go_wp2_with fail
        obtain ⟨hO9, hW9, -⟩ := HG9.out
        obtain ⟨A9, c9, hv9, k9, k9'⟩ := own_shape hO9
        subst hv9
        have HW9 := Lib.hid hW9
        have HBA9 := Lib.hid (BytesAt.own hO9)
        clear hO9 hW9
        have hSb9 := conv_of (w := w8.drew) (c := c9) rfl (show BytesAt w8.drew A9 (things (xs.take (k + 1))) from HBA9.out)
        by_cases h60 : k < 60
        · have hd : decide ((k : Int) < 60) = true := decide_eq_true (by omega)
          refine wp_region_noPanic ?_
          refine wp_region_held_drew (S := fun w' => (convert 28 9 (.slice A9 (things (xs.take (k + 1))).length c9)).run Try.prog w' = .ok (.string ⟨(things (xs.take (k + 1))).toArray⟩) w') (by kernel_rfl) (hSb9) (fun hHeld => ?_)
          refine wpAnyH_take (i := 0) (oi := { dst := some 43, op := Op.move (Operand.tmp 5), type := 3, pos := _, after := #[], guard := none }) (v := ?_) rfl (by kernel_rfl) (by kernel_rfl) (by kernel_rfl) (fun _ _ _ h => h) (Or.inl ⟨by rfl, ?_⟩) hHeld ?_
          rotate_left
          · (intro w hSw; (try dsimp only at hSw); first | (go_simp; done) | (go_simp; with_reducible rfl))
          try simp only [Act.put, List.setIfInBounds_toArray, List.set_cons_zero, List.set_cons_succ]
          refine wpAnyH_take (i := 1) (oi := { dst := some 44, op := Op.binOp BinOp.lss 3 (Operand.tmp 43) (Operand.const (Value.int IntKind.i64 60)) 3, type := 4, pos := _, after := #[{ on := 0, ground := Ground.data }], guard := none }) (v := ?_) rfl (by kernel_rfl) (by kernel_rfl) (by kernel_rfl) (fun _ _ _ h => h) (Or.inl ⟨by rfl, ?_⟩) hHeld ?_
          rotate_left
          · (intro w hSw; (try dsimp only at hSw); first | (go_simp; done) | (go_simp; with_reducible rfl))
          try simp only [Act.put, List.setIfInBounds_toArray, List.set_cons_zero, List.set_cons_succ]
          refine wpAnyH_take (i := 2) (oi := { dst := some 45, op := Op.move (Operand.tmp 44), type := 4, pos := _, after := #[{ on := 1, ground := Ground.data }], guard := none }) (v := ?_) rfl (by kernel_rfl) (by kernel_rfl) (by kernel_rfl) (fun _ _ _ h => h) (Or.inl ⟨by rfl, ?_⟩) hHeld ?_
          rotate_left
          · (intro w hSw; (try dsimp only at hSw); first | (go_simp; done) | (go_simp; with_reducible rfl))
          try simp only [Act.put, List.setIfInBounds_toArray, List.set_cons_zero, List.set_cons_succ]
          refine wpAnyH_take (i := 3) (oi := { dst := some 46, op := Op.move (Operand.tmp 3), type := 35, pos := _, after := #[{ on := 2, ground := Ground.guard }], guard := some (2, true) }) (v := ?_) rfl (by kernel_rfl) (by kernel_rfl) (by kernel_rfl) (fun _ _ _ h => h) (Or.inl ⟨by rfl, ?_⟩) hHeld ?_
          rotate_left
          · (intro w hSw; (try dsimp only at hSw); first | (go_simp; done) | (go_simp; with_reducible rfl))
          try simp only [Act.put, List.setIfInBounds_toArray, List.set_cons_zero, List.set_cons_succ]
          refine wpAnyH_take (i := 6) (oi := { dst := some 49, op := Op.move (Operand.tmp 4), type := 28, pos := _, after := #[{ on := 2, ground := Ground.guard }], guard := some (2, true) }) (v := ?_) rfl (by kernel_rfl) (by kernel_rfl) (by kernel_rfl) (fun _ _ _ h => h) (Or.inl ⟨by rfl, ?_⟩) hHeld ?_
          rotate_left
          · (intro w hSw; (try dsimp only at hSw); first | (go_simp; done) | (go_simp; with_reducible rfl))
          try simp only [Act.put, List.setIfInBounds_toArray, List.set_cons_zero, List.set_cons_succ]
          refine wpAnyH_take (i := 7) (oi := { dst := some 50, op := Op.convert 28 9 (Operand.tmp 49), type := 9, pos := _, after := #[{ on := 6, ground := Ground.data }, { on := 2, ground := Ground.guard }], guard := some (2, true) }) (v := ?_) rfl (by kernel_rfl) (by kernel_rfl) (by kernel_rfl) (fun _ _ _ h => h) (Or.inl ⟨by rfl, ?_⟩) hHeld ?_
          rotate_left
          · (intro w hSw; (try dsimp only at hSw); first | (go_simp; done) | (go_simp; with_reducible rfl))
          try simp only [Act.put, List.setIfInBounds_toArray, List.set_cons_zero, List.set_cons_succ]
          refine wpAnyH_ready (rs := [4]) (by kernel_rfl) (by simp) (AllReadyH.cons (o := { dst := some 47, op := Op.call { callee := Callee.value (Operand.func 13), args := #[Operand.tmp 46], argTypes := #[35] }, type := 28, pos := _, after := #[{ on := 3, ground := Ground.data }, { on := 2, ground := Ground.chain }, { on := 2, ground := Ground.guard }], guard := some (2, true) }) rfl (fun K hK => ?_) AllReadyH.nil)
          go_simp
          refine (Bytes_in (show WIn w.heap.size (Value.slice A9 (things (xs.take (k + 1))).length c9).ownBlock.toList a (things (xs.take (k + 1))) w8.drew from HW9.out) (by omega)).mono ?_
          rintro x10 w10 ⟨A10, n10, c10, rfl, -, -, -, HF10, -, -, hS10⟩
          have hSb10 := conv_of (c := c9) rfl (BytesAt.below (show BytesAt w8.drew A9 (things (xs.take (k + 1))) from HBA9.out) HF10.out)
          have HG10 := Lib.hid (HG9.out.drew.below HF10.out)
          go_simp
          refine hK.out _ _ (hSb10) (fun hHeld => ?_)
          clear hK K
          try simp only [Act.put, List.setIfInBounds_toArray, List.set_cons_zero, List.set_cons_succ]
          refine wpAnyH_ready (rs := [5]) (by kernel_rfl) (by simp) (AllReadyH.cons (o := { dst := some 48, op := Op.convert 28 9 (Operand.tmp 47), type := 9, pos := _, after := #[{ on := 4, ground := Ground.data }, { on := 2, ground := Ground.guard }], guard := some (2, true) }) rfl (fun K hK => ?_) AllReadyH.nil)
          go_simp
          refine hK.out _ _ (hHeld) (fun hHeld => ?_)
          clear hK K
          try simp only [Act.put, List.setIfInBounds_toArray, List.set_cons_zero, List.set_cons_succ]
          refine wpAnyH_take (i := 8) (oi := { dst := some 51, op := Op.binOp BinOp.neq 9 (Operand.tmp 48) (Operand.tmp 50) 9, type := 4, pos := _, after := #[{ on := 5, ground := Ground.data }, { on := 7, ground := Ground.data }, { on := 2, ground := Ground.guard }], guard := some (2, true) }) (v := ?_) rfl (by kernel_rfl) (by kernel_rfl) (by kernel_rfl) (fun _ _ _ h => h) (Or.inl ⟨by rfl, ?_⟩) hHeld ?_
          rotate_left
          · (intro w hSw; (try dsimp only at hSw); first | (go_simp; done) | (go_simp; with_reducible rfl))
          try simp only [Act.put, List.setIfInBounds_toArray, List.set_cons_zero, List.set_cons_succ]
          refine wpAnyH_take (i := 9) (oi := { dst := some 52, op := Op.pick (Operand.tmp 45) (Operand.tmp 51) (Operand.const (Value.bool false)), type := 4, pos := _, after := #[{ on := 2, ground := Ground.data }, { on := 8, ground := Ground.data }], guard := none }) (v := ?_) rfl (by kernel_rfl) (by kernel_rfl) (by kernel_rfl) (fun _ _ _ h => h) (Or.inl ⟨by rfl, ?_⟩) hHeld ?_
          rotate_left
          · (intro w hSw; (try dsimp only at hSw); first | (go_simp; done) | (go_simp; with_reducible rfl))
          try simp only [Act.put, List.setIfInBounds_toArray, List.set_cons_zero, List.set_cons_succ]
          refine wpAnyH_done (by kernel_rfl) ?_ _
          refine NoPanic.normal ?_
          go_wp2_with fail
          go_roundw
          case rel => exact ⟨k + 1, rfl, by omega, HG10.out⟩
          case measure => simp only [intOf]; omega
        · have hd : decide ((k : Int) < 60) = false := decide_eq_false (by omega)
          refine wp_region_noPanic ?_
          refine wp_region_held_drew (S := fun _ => True) (by kernel_rfl) (trivial) (fun hHeld => ?_)
          refine wpAnyH_take (i := 0) (oi := { dst := some 43, op := Op.move (Operand.tmp 5), type := 3, pos := _, after := #[], guard := none }) (v := ?_) rfl (by kernel_rfl) (by kernel_rfl) (by kernel_rfl) (fun _ _ _ h => h) (Or.inl ⟨by rfl, ?_⟩) hHeld ?_
          rotate_left
          · (intro w hSw; (try dsimp only at hSw); first | (go_simp; done) | (go_simp; with_reducible rfl))
          try simp only [Act.put, List.setIfInBounds_toArray, List.set_cons_zero, List.set_cons_succ]
          refine wpAnyH_take (i := 1) (oi := { dst := some 44, op := Op.binOp BinOp.lss 3 (Operand.tmp 43) (Operand.const (Value.int IntKind.i64 60)) 3, type := 4, pos := _, after := #[{ on := 0, ground := Ground.data }], guard := none }) (v := ?_) rfl (by kernel_rfl) (by kernel_rfl) (by kernel_rfl) (fun _ _ _ h => h) (Or.inl ⟨by rfl, ?_⟩) hHeld ?_
          rotate_left
          · (intro w hSw; (try dsimp only at hSw); first | (go_simp; done) | (go_simp; with_reducible rfl))
          try simp only [Act.put, List.setIfInBounds_toArray, List.set_cons_zero, List.set_cons_succ]
          refine wpAnyH_take (i := 2) (oi := { dst := some 45, op := Op.move (Operand.tmp 44), type := 4, pos := _, after := #[{ on := 1, ground := Ground.data }], guard := none }) (v := ?_) rfl (by kernel_rfl) (by kernel_rfl) (by kernel_rfl) (fun _ _ _ h => h) (Or.inl ⟨by rfl, ?_⟩) hHeld ?_
          rotate_left
          · (intro w hSw; (try dsimp only at hSw); first | (go_simp; done) | (go_simp; with_reducible rfl))
          try simp only [Act.put, List.setIfInBounds_toArray, List.set_cons_zero, List.set_cons_succ]
          refine wpAnyH_take (i := 3) (oi := { dst := some 46, op := Op.move (Operand.tmp 3), type := 35, pos := _, after := #[{ on := 2, ground := Ground.guard }], guard := some (2, true) }) (v := undef) rfl (by kernel_rfl) (by kernel_rfl) (by kernel_rfl) (fun _ _ _ h => h) (Or.inr ⟨by rfl, rfl⟩) hHeld ?_
          try simp only [Act.put, List.setIfInBounds_toArray, List.set_cons_zero, List.set_cons_succ]
          refine wpAnyH_take (i := 4) (oi := { dst := some 47, op := Op.call { callee := Callee.value (Operand.func 13), args := #[Operand.tmp 46], argTypes := #[35] }, type := 28, pos := _, after := #[{ on := 3, ground := Ground.data }, { on := 2, ground := Ground.chain }, { on := 2, ground := Ground.guard }], guard := some (2, true) }) (v := undef) rfl (by kernel_rfl) (by kernel_rfl) (by kernel_rfl) (fun _ _ _ h => h) (Or.inr ⟨by rfl, rfl⟩) hHeld ?_
          try simp only [Act.put, List.setIfInBounds_toArray, List.set_cons_zero, List.set_cons_succ]
          refine wpAnyH_take (i := 5) (oi := { dst := some 48, op := Op.convert 28 9 (Operand.tmp 47), type := 9, pos := _, after := #[{ on := 4, ground := Ground.data }, { on := 2, ground := Ground.guard }], guard := some (2, true) }) (v := undef) rfl (by kernel_rfl) (by kernel_rfl) (by kernel_rfl) (fun _ _ _ h => h) (Or.inr ⟨by rfl, rfl⟩) hHeld ?_
          try simp only [Act.put, List.setIfInBounds_toArray, List.set_cons_zero, List.set_cons_succ]
          refine wpAnyH_take (i := 6) (oi := { dst := some 49, op := Op.move (Operand.tmp 4), type := 28, pos := _, after := #[{ on := 2, ground := Ground.guard }], guard := some (2, true) }) (v := undef) rfl (by kernel_rfl) (by kernel_rfl) (by kernel_rfl) (fun _ _ _ h => h) (Or.inr ⟨by rfl, rfl⟩) hHeld ?_
          try simp only [Act.put, List.setIfInBounds_toArray, List.set_cons_zero, List.set_cons_succ]
          refine wpAnyH_take (i := 7) (oi := { dst := some 50, op := Op.convert 28 9 (Operand.tmp 49), type := 9, pos := _, after := #[{ on := 6, ground := Ground.data }, { on := 2, ground := Ground.guard }], guard := some (2, true) }) (v := undef) rfl (by kernel_rfl) (by kernel_rfl) (by kernel_rfl) (fun _ _ _ h => h) (Or.inr ⟨by rfl, rfl⟩) hHeld ?_
          try simp only [Act.put, List.setIfInBounds_toArray, List.set_cons_zero, List.set_cons_succ]
          refine wpAnyH_take (i := 8) (oi := { dst := some 51, op := Op.binOp BinOp.neq 9 (Operand.tmp 48) (Operand.tmp 50) 9, type := 4, pos := _, after := #[{ on := 5, ground := Ground.data }, { on := 7, ground := Ground.data }, { on := 2, ground := Ground.guard }], guard := some (2, true) }) (v := undef) rfl (by kernel_rfl) (by kernel_rfl) (by kernel_rfl) (fun _ _ _ h => h) (Or.inr ⟨by rfl, rfl⟩) hHeld ?_
          try simp only [Act.put, List.setIfInBounds_toArray, List.set_cons_zero, List.set_cons_succ]
          refine wpAnyH_take (i := 9) (oi := { dst := some 52, op := Op.pick (Operand.tmp 45) (Operand.tmp 51) (Operand.const (Value.bool false)), type := 4, pos := _, after := #[{ on := 2, ground := Ground.data }, { on := 8, ground := Ground.data }], guard := none }) (v := ?_) rfl (by kernel_rfl) (by kernel_rfl) (by kernel_rfl) (fun _ _ _ h => h) (Or.inl ⟨by rfl, ?_⟩) hHeld ?_
          rotate_left
          · (intro w hSw; (try dsimp only at hSw); first | (go_simp; done) | (go_simp; with_reducible rfl))
          try simp only [Act.put, List.setIfInBounds_toArray, List.set_cons_zero, List.set_cons_succ]
          refine wpAnyH_done (by kernel_rfl) ?_ _
          refine NoPanic.normal ?_
          go_wp2_with fail
          go_roundw
          case rel => exact ⟨k + 1, rfl, by omega, HG9.out.drew⟩
          case measure => simp only [intOf]; omega
      | false =>
        have HM := Lib.hid (show encThing ⟨false, n, s⟩ = OM.enc n.toNat from enc_num rfl)
        have HW6' := Lib.hid (show WIn w.heap.size (Value.slice Av (things (xs.take k)).length cv).ownBlock.toList a (things (xs.take k) ++ OM.enc n.toNat) w6 from by have h := HW6.out; rw [HE.out, HM.out] at h; exact h)
        have hts : True := trivial
        rw [HM.out] at hsum hsz
        clear htx
        clear HE HW6
        go_wp2_with fail
        refine (RefNum_in hf1).mono ?_
        rintro e w7 ⟨A7, n7, c7, rfl, HN7, HX7, -, HF7, k7, k7', -⟩
        obtain ⟨ad7, hA7⟩ := addr_of HX7.out (OM.enc_pos _)
        subst hA7
        have HO7 := Lib.hid (Mod.own (Mod.of_below HF7.out []) HO6.out (by simp))
        have HW7 := Lib.hid (HW6'.out.below HF7.out)
        have HB7 := Lib.hid (HB6.out.trans (HF7.out.mono HB6.out.size))
        have hn7 := Nat.le_of_eq HN7.out
        obtain ⟨i0, hi, hz0, hz1, hz2⟩ := info_parts info_u8
        go_wp2_with (at_builtin; refine wpList_append_own_at _ rfl (.tmp 35) (.tmp 41) 28 rfl w.heap.size 5 i0 (.int .u8 0) 1 1 Try.underlying28 hi hz0 hz1 hz2 rfl (by decide) (.slice Av (things (xs.take k)).length cv) (things (xs.take k)).length (u8s (things (xs.take k))) rfl HO7.out ad7 n7 c7 (u8s (OM.enc n.toNat)) rfl (by rw [u8s_len, Nat.mul_one]; exact HN7.out.symm) HX7.out.cells one_u8 (by unfold maxLen; omega) (by omega) HB7.out.size ?_; intro v8 w8 hown8 hgrow8 _ hat8; have HG8 := Lib.hid (gath_app HO7.out HW7.out HB7.out HN7.out hown8 hgrow8 hat8); clear hown8 hgrow8 hat8 hi hz0 hz1 hz2)
        have HG9 : Hid (Gathered w a (things (xs.take (k + 1))) v8 w8) := Lib.hid (by rw [HTk.out, HM.out]; exact HG8.out)
        clear HG8 HM HO7 HW7 HB7 HX7 HF7 HN7 HO6 HW6' HB6
        go_wp2_with fail
        obtain ⟨hO9, hW9, -⟩ := HG9.out
        obtain ⟨A9, c9, hv9, k9, k9'⟩ := own_shape hO9
        subst hv9
        have HW9 := Lib.hid hW9
        have HBA9 := Lib.hid (BytesAt.own hO9)
        clear hO9 hW9
        have hSb9 := conv_of (w := w8.drew) (c := c9) rfl (show BytesAt w8.drew A9 (things (xs.take (k + 1))) from HBA9.out)
        by_cases h60 : k < 60
        · have hd : decide ((k : Int) < 60) = true := decide_eq_true (by omega)
          refine wp_region_noPanic ?_
          refine wp_region_held_drew (S := fun w' => (convert 28 9 (.slice A9 (things (xs.take (k + 1))).length c9)).run Try.prog w' = .ok (.string ⟨(things (xs.take (k + 1))).toArray⟩) w') (by kernel_rfl) (hSb9) (fun hHeld => ?_)
          refine wpAnyH_take (i := 0) (oi := { dst := some 43, op := Op.move (Operand.tmp 5), type := 3, pos := _, after := #[], guard := none }) (v := ?_) rfl (by kernel_rfl) (by kernel_rfl) (by kernel_rfl) (fun _ _ _ h => h) (Or.inl ⟨by rfl, ?_⟩) hHeld ?_
          rotate_left
          · (intro w hSw; (try dsimp only at hSw); first | (go_simp; done) | (go_simp; with_reducible rfl))
          try simp only [Act.put, List.setIfInBounds_toArray, List.set_cons_zero, List.set_cons_succ]
          refine wpAnyH_take (i := 1) (oi := { dst := some 44, op := Op.binOp BinOp.lss 3 (Operand.tmp 43) (Operand.const (Value.int IntKind.i64 60)) 3, type := 4, pos := _, after := #[{ on := 0, ground := Ground.data }], guard := none }) (v := ?_) rfl (by kernel_rfl) (by kernel_rfl) (by kernel_rfl) (fun _ _ _ h => h) (Or.inl ⟨by rfl, ?_⟩) hHeld ?_
          rotate_left
          · (intro w hSw; (try dsimp only at hSw); first | (go_simp; done) | (go_simp; with_reducible rfl))
          try simp only [Act.put, List.setIfInBounds_toArray, List.set_cons_zero, List.set_cons_succ]
          refine wpAnyH_take (i := 2) (oi := { dst := some 45, op := Op.move (Operand.tmp 44), type := 4, pos := _, after := #[{ on := 1, ground := Ground.data }], guard := none }) (v := ?_) rfl (by kernel_rfl) (by kernel_rfl) (by kernel_rfl) (fun _ _ _ h => h) (Or.inl ⟨by rfl, ?_⟩) hHeld ?_
          rotate_left
          · (intro w hSw; (try dsimp only at hSw); first | (go_simp; done) | (go_simp; with_reducible rfl))
          try simp only [Act.put, List.setIfInBounds_toArray, List.set_cons_zero, List.set_cons_succ]
          refine wpAnyH_take (i := 3) (oi := { dst := some 46, op := Op.move (Operand.tmp 3), type := 35, pos := _, after := #[{ on := 2, ground := Ground.guard }], guard := some (2, true) }) (v := ?_) rfl (by kernel_rfl) (by kernel_rfl) (by kernel_rfl) (fun _ _ _ h => h) (Or.inl ⟨by rfl, ?_⟩) hHeld ?_
          rotate_left
          · (intro w hSw; (try dsimp only at hSw); first | (go_simp; done) | (go_simp; with_reducible rfl))
          try simp only [Act.put, List.setIfInBounds_toArray, List.set_cons_zero, List.set_cons_succ]
          refine wpAnyH_take (i := 6) (oi := { dst := some 49, op := Op.move (Operand.tmp 4), type := 28, pos := _, after := #[{ on := 2, ground := Ground.guard }], guard := some (2, true) }) (v := ?_) rfl (by kernel_rfl) (by kernel_rfl) (by kernel_rfl) (fun _ _ _ h => h) (Or.inl ⟨by rfl, ?_⟩) hHeld ?_
          rotate_left
          · (intro w hSw; (try dsimp only at hSw); first | (go_simp; done) | (go_simp; with_reducible rfl))
          try simp only [Act.put, List.setIfInBounds_toArray, List.set_cons_zero, List.set_cons_succ]
          refine wpAnyH_take (i := 7) (oi := { dst := some 50, op := Op.convert 28 9 (Operand.tmp 49), type := 9, pos := _, after := #[{ on := 6, ground := Ground.data }, { on := 2, ground := Ground.guard }], guard := some (2, true) }) (v := ?_) rfl (by kernel_rfl) (by kernel_rfl) (by kernel_rfl) (fun _ _ _ h => h) (Or.inl ⟨by rfl, ?_⟩) hHeld ?_
          rotate_left
          · (intro w hSw; (try dsimp only at hSw); first | (go_simp; done) | (go_simp; with_reducible rfl))
          try simp only [Act.put, List.setIfInBounds_toArray, List.set_cons_zero, List.set_cons_succ]
          refine wpAnyH_ready (rs := [4]) (by kernel_rfl) (by simp) (AllReadyH.cons (o := { dst := some 47, op := Op.call { callee := Callee.value (Operand.func 13), args := #[Operand.tmp 46], argTypes := #[35] }, type := 28, pos := _, after := #[{ on := 3, ground := Ground.data }, { on := 2, ground := Ground.chain }, { on := 2, ground := Ground.guard }], guard := some (2, true) }) rfl (fun K hK => ?_) AllReadyH.nil)
          go_simp
          refine (Bytes_in (show WIn w.heap.size (Value.slice A9 (things (xs.take (k + 1))).length c9).ownBlock.toList a (things (xs.take (k + 1))) w8.drew from HW9.out) (by omega)).mono ?_
          rintro x10 w10 ⟨A10, n10, c10, rfl, -, -, -, HF10, -, -, hS10⟩
          have hSb10 := conv_of (c := c9) rfl (BytesAt.below (show BytesAt w8.drew A9 (things (xs.take (k + 1))) from HBA9.out) HF10.out)
          have HG10 := Lib.hid (HG9.out.drew.below HF10.out)
          go_simp
          refine hK.out _ _ (hSb10) (fun hHeld => ?_)
          clear hK K
          try simp only [Act.put, List.setIfInBounds_toArray, List.set_cons_zero, List.set_cons_succ]
          refine wpAnyH_ready (rs := [5]) (by kernel_rfl) (by simp) (AllReadyH.cons (o := { dst := some 48, op := Op.convert 28 9 (Operand.tmp 47), type := 9, pos := _, after := #[{ on := 4, ground := Ground.data }, { on := 2, ground := Ground.guard }], guard := some (2, true) }) rfl (fun K hK => ?_) AllReadyH.nil)
          go_simp
          refine hK.out _ _ (hHeld) (fun hHeld => ?_)
          clear hK K
          try simp only [Act.put, List.setIfInBounds_toArray, List.set_cons_zero, List.set_cons_succ]
          refine wpAnyH_take (i := 8) (oi := { dst := some 51, op := Op.binOp BinOp.neq 9 (Operand.tmp 48) (Operand.tmp 50) 9, type := 4, pos := _, after := #[{ on := 5, ground := Ground.data }, { on := 7, ground := Ground.data }, { on := 2, ground := Ground.guard }], guard := some (2, true) }) (v := ?_) rfl (by kernel_rfl) (by kernel_rfl) (by kernel_rfl) (fun _ _ _ h => h) (Or.inl ⟨by rfl, ?_⟩) hHeld ?_
          rotate_left
          · (intro w hSw; (try dsimp only at hSw); first | (go_simp; done) | (go_simp; with_reducible rfl))
          try simp only [Act.put, List.setIfInBounds_toArray, List.set_cons_zero, List.set_cons_succ]
          refine wpAnyH_take (i := 9) (oi := { dst := some 52, op := Op.pick (Operand.tmp 45) (Operand.tmp 51) (Operand.const (Value.bool false)), type := 4, pos := _, after := #[{ on := 2, ground := Ground.data }, { on := 8, ground := Ground.data }], guard := none }) (v := ?_) rfl (by kernel_rfl) (by kernel_rfl) (by kernel_rfl) (fun _ _ _ h => h) (Or.inl ⟨by rfl, ?_⟩) hHeld ?_
          rotate_left
          · (intro w hSw; (try dsimp only at hSw); first | (go_simp; done) | (go_simp; with_reducible rfl))
          try simp only [Act.put, List.setIfInBounds_toArray, List.set_cons_zero, List.set_cons_succ]
          refine wpAnyH_done (by kernel_rfl) ?_ _
          refine NoPanic.normal ?_
          go_wp2_with fail
          go_roundw
          case rel => exact ⟨k + 1, rfl, by omega, HG10.out⟩
          case measure => simp only [intOf]; omega
        · have hd : decide ((k : Int) < 60) = false := decide_eq_false (by omega)
          refine wp_region_noPanic ?_
          refine wp_region_held_drew (S := fun _ => True) (by kernel_rfl) (trivial) (fun hHeld => ?_)
          refine wpAnyH_take (i := 0) (oi := { dst := some 43, op := Op.move (Operand.tmp 5), type := 3, pos := _, after := #[], guard := none }) (v := ?_) rfl (by kernel_rfl) (by kernel_rfl) (by kernel_rfl) (fun _ _ _ h => h) (Or.inl ⟨by rfl, ?_⟩) hHeld ?_
          rotate_left
          · (intro w hSw; (try dsimp only at hSw); first | (go_simp; done) | (go_simp; with_reducible rfl))
          try simp only [Act.put, List.setIfInBounds_toArray, List.set_cons_zero, List.set_cons_succ]
          refine wpAnyH_take (i := 1) (oi := { dst := some 44, op := Op.binOp BinOp.lss 3 (Operand.tmp 43) (Operand.const (Value.int IntKind.i64 60)) 3, type := 4, pos := _, after := #[{ on := 0, ground := Ground.data }], guard := none }) (v := ?_) rfl (by kernel_rfl) (by kernel_rfl) (by kernel_rfl) (fun _ _ _ h => h) (Or.inl ⟨by rfl, ?_⟩) hHeld ?_
          rotate_left
          · (intro w hSw; (try dsimp only at hSw); first | (go_simp; done) | (go_simp; with_reducible rfl))
          try simp only [Act.put, List.setIfInBounds_toArray, List.set_cons_zero, List.set_cons_succ]
          refine wpAnyH_take (i := 2) (oi := { dst := some 45, op := Op.move (Operand.tmp 44), type := 4, pos := _, after := #[{ on := 1, ground := Ground.data }], guard := none }) (v := ?_) rfl (by kernel_rfl) (by kernel_rfl) (by kernel_rfl) (fun _ _ _ h => h) (Or.inl ⟨by rfl, ?_⟩) hHeld ?_
          rotate_left
          · (intro w hSw; (try dsimp only at hSw); first | (go_simp; done) | (go_simp; with_reducible rfl))
          try simp only [Act.put, List.setIfInBounds_toArray, List.set_cons_zero, List.set_cons_succ]
          refine wpAnyH_take (i := 3) (oi := { dst := some 46, op := Op.move (Operand.tmp 3), type := 35, pos := _, after := #[{ on := 2, ground := Ground.guard }], guard := some (2, true) }) (v := undef) rfl (by kernel_rfl) (by kernel_rfl) (by kernel_rfl) (fun _ _ _ h => h) (Or.inr ⟨by rfl, rfl⟩) hHeld ?_
          try simp only [Act.put, List.setIfInBounds_toArray, List.set_cons_zero, List.set_cons_succ]
          refine wpAnyH_take (i := 4) (oi := { dst := some 47, op := Op.call { callee := Callee.value (Operand.func 13), args := #[Operand.tmp 46], argTypes := #[35] }, type := 28, pos := _, after := #[{ on := 3, ground := Ground.data }, { on := 2, ground := Ground.chain }, { on := 2, ground := Ground.guard }], guard := some (2, true) }) (v := undef) rfl (by kernel_rfl) (by kernel_rfl) (by kernel_rfl) (fun _ _ _ h => h) (Or.inr ⟨by rfl, rfl⟩) hHeld ?_
          try simp only [Act.put, List.setIfInBounds_toArray, List.set_cons_zero, List.set_cons_succ]
          refine wpAnyH_take (i := 5) (oi := { dst := some 48, op := Op.convert 28 9 (Operand.tmp 47), type := 9, pos := _, after := #[{ on := 4, ground := Ground.data }, { on := 2, ground := Ground.guard }], guard := some (2, true) }) (v := undef) rfl (by kernel_rfl) (by kernel_rfl) (by kernel_rfl) (fun _ _ _ h => h) (Or.inr ⟨by rfl, rfl⟩) hHeld ?_
          try simp only [Act.put, List.setIfInBounds_toArray, List.set_cons_zero, List.set_cons_succ]
          refine wpAnyH_take (i := 6) (oi := { dst := some 49, op := Op.move (Operand.tmp 4), type := 28, pos := _, after := #[{ on := 2, ground := Ground.guard }], guard := some (2, true) }) (v := undef) rfl (by kernel_rfl) (by kernel_rfl) (by kernel_rfl) (fun _ _ _ h => h) (Or.inr ⟨by rfl, rfl⟩) hHeld ?_
          try simp only [Act.put, List.setIfInBounds_toArray, List.set_cons_zero, List.set_cons_succ]
          refine wpAnyH_take (i := 7) (oi := { dst := some 50, op := Op.convert 28 9 (Operand.tmp 49), type := 9, pos := _, after := #[{ on := 6, ground := Ground.data }, { on := 2, ground := Ground.guard }], guard := some (2, true) }) (v := undef) rfl (by kernel_rfl) (by kernel_rfl) (by kernel_rfl) (fun _ _ _ h => h) (Or.inr ⟨by rfl, rfl⟩) hHeld ?_
          try simp only [Act.put, List.setIfInBounds_toArray, List.set_cons_zero, List.set_cons_succ]
          refine wpAnyH_take (i := 8) (oi := { dst := some 51, op := Op.binOp BinOp.neq 9 (Operand.tmp 48) (Operand.tmp 50) 9, type := 4, pos := _, after := #[{ on := 5, ground := Ground.data }, { on := 7, ground := Ground.data }, { on := 2, ground := Ground.guard }], guard := some (2, true) }) (v := undef) rfl (by kernel_rfl) (by kernel_rfl) (by kernel_rfl) (fun _ _ _ h => h) (Or.inr ⟨by rfl, rfl⟩) hHeld ?_
          try simp only [Act.put, List.setIfInBounds_toArray, List.set_cons_zero, List.set_cons_succ]
          refine wpAnyH_take (i := 9) (oi := { dst := some 52, op := Op.pick (Operand.tmp 45) (Operand.tmp 51) (Operand.const (Value.bool false)), type := 4, pos := _, after := #[{ on := 2, ground := Ground.data }, { on := 8, ground := Ground.data }], guard := none }) (v := ?_) rfl (by kernel_rfl) (by kernel_rfl) (by kernel_rfl) (fun _ _ _ h => h) (Or.inl ⟨by rfl, ?_⟩) hHeld ?_
          rotate_left
          · (intro w hSw; (try dsimp only at hSw); first | (go_simp; done) | (go_simp; with_reducible rfl))
          try simp only [Act.put, List.setIfInBounds_toArray, List.set_cons_zero, List.set_cons_succ]
          refine wpAnyH_done (by kernel_rfl) ?_ _
          refine NoPanic.normal ?_
          go_wp2_with fail
          go_roundw
          case rel => exact ⟨k + 1, rfl, by omega, HG9.out.drew⟩
          case measure => simp only [intOf]; omega
    · have e : xs.take k = xs := List.take_of_length_le (by omega)
      rw [e] at HQ
      obtain ⟨hown, hW, hBw⟩ := HQ.out
      obtain ⟨Av, cv, hv, hv1, hv2⟩ := own_shape hown
      subst hv
      have HO := Lib.hid hown; have HW := Lib.hid hW; have HBw := Lib.hid hBw
      clear hown hW hBw e
      go_wp2_with fail
      have HWd := HW
      have HBA := Lib.hid (BytesAt.own HO.out)
      have hSb := conv_of (w := wr.drew) (c := cv) rfl (show BytesAt wr.drew Av (things xs) from HBA.out)
      refine wp_region_noPanic ?_
      refine wp_region_held_drew (S := fun w' => (convert 28 9 (.slice Av (things xs).length cv)).run Try.prog w' = .ok (.string ⟨(things xs).toArray⟩) w') (by kernel_rfl) (hSb) (fun hHeld => ?_)
      refine wpAnyH_take (i := 0) (oi := { dst := some 54, op := Op.move (Operand.tmp 3), type := 35, pos := _, after := #[], guard := none }) (v := ?_) rfl (by kernel_rfl) (by kernel_rfl) (by kernel_rfl) (fun _ _ _ h => h) (Or.inl ⟨by rfl, ?_⟩) hHeld ?_
      rotate_left
      · (intro w hSw; (try dsimp only at hSw); first | (go_simp; done) | (go_simp; with_reducible rfl))
      try simp only [Act.put, List.setIfInBounds_toArray, List.set_cons_zero, List.set_cons_succ]
      refine wpAnyH_take (i := 3) (oi := { dst := some 57, op := Op.move (Operand.tmp 4), type := 28, pos := _, after := #[], guard := none }) (v := ?_) rfl (by kernel_rfl) (by kernel_rfl) (by kernel_rfl) (fun _ _ _ h => h) (Or.inl ⟨by rfl, ?_⟩) hHeld ?_
      rotate_left
      · (intro w hSw; (try dsimp only at hSw); first | (go_simp; done) | (go_simp; with_reducible rfl))
      try simp only [Act.put, List.setIfInBounds_toArray, List.set_cons_zero, List.set_cons_succ]
      refine wpAnyH_take (i := 4) (oi := { dst := some 58, op := Op.convert 28 9 (Operand.tmp 57), type := 9, pos := _, after := #[{ on := 3, ground := Ground.data }], guard := none }) (v := ?_) rfl (by kernel_rfl) (by kernel_rfl) (by kernel_rfl) (fun _ _ _ h => h) (Or.inl ⟨by rfl, ?_⟩) hHeld ?_
      rotate_left
      · (intro w hSw; (try dsimp only at hSw); first | (go_simp; done) | (go_simp; with_reducible rfl))
      try simp only [Act.put, List.setIfInBounds_toArray, List.set_cons_zero, List.set_cons_succ]
      refine wpAnyH_ready (rs := [1]) (by kernel_rfl) (by simp) (AllReadyH.cons (o := { dst := some 55, op := Op.call { callee := Callee.value (Operand.func 13), args := #[Operand.tmp 54], argTypes := #[35] }, type := 28, pos := _, after := #[{ on := 0, ground := Ground.data }], guard := none }) rfl (fun K hK => ?_) AllReadyH.nil)
      go_simp
      refine (Bytes_in (show WIn w.heap.size (Value.slice Av (things xs).length cv).ownBlock.toList a (things xs) wr.drew from HWd.out) (by omega)).mono ?_
      rintro x7 w7 ⟨A7, n7, c7, rfl, -, -, -, HF7, -, -, hS7⟩
      have hSb7 := conv_of (c := cv) rfl (BytesAt.below (show BytesAt wr.drew Av (things xs) from HBA.out) HF7.out)
      have HW7 := Lib.hid (Below.trans (show Below w.heap.size w wr.drew from ⟨HBw.out.os, HBw.out.tape, HBw.out.output, HBw.out.size, HBw.out.block⟩) (HF7.out.mono HBw.out.size))
      go_simp
      refine hK.out _ _ (hSb7) (fun hHeld => ?_)
      clear hK K
      try simp only [Act.put, List.setIfInBounds_toArray, List.set_cons_zero, List.set_cons_succ]
      refine wpAnyH_ready (rs := [2]) (by kernel_rfl) (by simp) (AllReadyH.cons (o := { dst := some 56, op := Op.convert 28 9 (Operand.tmp 55), type := 9, pos := _, after := #[{ on := 1, ground := Ground.data }], guard := none }) rfl (fun K hK => ?_) AllReadyH.nil)
      go_simp
      refine hK.out _ _ (hHeld) (fun hHeld => ?_)
      clear hK K
      try simp only [Act.put, List.setIfInBounds_toArray, List.set_cons_zero, List.set_cons_succ]
      refine wpAnyH_take (i := 5) (oi := { dst := some 59, op := Op.binOp BinOp.eql 9 (Operand.tmp 56) (Operand.tmp 58) 9, type := 4, pos := _, after := #[{ on := 2, ground := Ground.data }, { on := 4, ground := Ground.data }], guard := none }) (v := ?_) rfl (by kernel_rfl) (by kernel_rfl) (by kernel_rfl) (fun _ _ _ h => h) (Or.inl ⟨by rfl, ?_⟩) hHeld ?_
      rotate_left
      · (intro w hSw; (try dsimp only at hSw); first | (go_simp; done) | (go_simp; with_reducible rfl))
      try simp only [Act.put, List.setIfInBounds_toArray, List.set_cons_zero, List.set_cons_succ]
      refine wpAnyH_take (i := 6) (oi := { dst := some 2, op := Op.assign (Operand.tmp 59), type := 4, pos := _, after := #[{ on := 5, ground := Ground.data }, { on := 1, ground := Ground.chain }, { on := 0, ground := Ground.phase }, { on := 1, ground := Ground.phase }, { on := 2, ground := Ground.phase }, { on := 3, ground := Ground.phase }, { on := 4, ground := Ground.phase }, { on := 5, ground := Ground.phase }], guard := none }) (v := ?_) rfl (by kernel_rfl) (by kernel_rfl) (by kernel_rfl) (fun _ _ _ h => h) (Or.inl ⟨by rfl, ?_⟩) hHeld ?_
      rotate_left
      · (intro w hSw; (try dsimp only at hSw); first | (go_simp; done) | (go_simp; with_reducible rfl))
      try simp only [Act.put, List.setIfInBounds_toArray, List.set_cons_zero, List.set_cons_succ]
      refine wpAnyH_done (by kernel_rfl) ?_ _
      refine NoPanic.normal ?_
      go_wp2_with fail
      go_ret
      exact ⟨rfl, HW7.out⟩

theorem own : ownKnob Try.prog.godebug = none := by kernel_rfl
theorem laidOut : laidOutB Try.prog = true := by kernel_rfl
set_option maxRecDepth 100000 in
theorem lifted (os : Os) (started : os.Started) (H : Type) (enc : TypeId × Value → H) (F : Stop.Interp) :
    ReturnsInHanded {} Try.checked os 4 .any ((Rows.OpenSpec.upto Rows.octetsWritesSpec).pre6 enc Try.prog Try.f4 Rows.octetsWritesUptoRow.domain false) (((Rows.OpenSpec.upto Rows.octetsWritesSpec).at F).post enc Try.prog Try.f4 false true false false) := by
  refine LK.lifted_upto (C := Try.checked) (s := Rows.OpenSpec.upto Rows.octetsWritesSpec) (k := Rows.uptoSmall) rfl (F := F) (s0 := Rows.octetsWritesSpec) (tb := 4) rfl own started (by kernel_rfl) Try.func4 laidOut rfl rfl rfl rfl (by kernel_rfl) (by kernel_rfl) Try.underlying4
    (fun ds h => by
      match ds, h with
      | [_], _ => rfl)
    (OpenSpec.witness (enc := enc) (C := Try.checked) (s := Rows.OpenSpec.upto Rows.octetsWritesSpec) (k := Rows.uptoSmall) rfl false ⟨#[], #[.slice none 0 0], []⟩ 8 (by kernel_rfl) (by kernel_rfl) (by kernel_rfl)
      (x := ([.nil], [], [])) (by kernel_rfl) rfl (by kernel_rfl)) ?_
  intro W base args ds ps hval hA hwt hkk
  rw [show Try.f4.params.toList = [34] by kernel_rfl] at hA hwt
  have hval' : ∀ (j : Nat) t v, (#[34] : Array TypeId)[j]? = some t → args[j]? = some v → Value.okWide Try.prog W .any base t v := by
    rw [← Try.params4]; exact hval
  clear hval
  obtain ⟨v0, d0, rfl, rfl, h0⟩ := trodAll_one hA
  obtain ⟨A0, c0, xs0, rfl, hT0, hc0, hm0, hF0, hk0⟩ := open_things (hval' 0 34 v0 rfl rfl) h0
  have hbulk : Rows.uptoBulkAll [d0] ≤ 1048576 := of_decide_eq_true hkk
  have hroom : (things xs0).length ≤ 10485760 := by
    simp only [Rows.uptoBulkAll] at hbulk
    omega
  exact walk A0 c0 xs0 W hT0 hc0 hm0 hF0 hroom

/-- The statement. -/
theorem proved : Rows.OctetsWritesUptoSaid :=
  OpenClaim.holds_of_cond 4 Try.f4 rfl rfl rfl rfl rfl rfl rfl ⟨rfl, rfl, rfl, rfl, rfl⟩ rfl rfl rfl rfl rfl (by kernel_rfl) Try.func4 (by kernel_rfl)
    (of_decide_eq_true (by kernel_rfl)) (by unfold Func.isWrapper; first | (rw [if_pos (by decide +kernel)]; kernel_rfl) | (rw [if_neg (by decide +kernel)]; exact ⟨rfl, rfl⟩))
    (fun os started H enc _ F => lifted os started H enc F)

end Go.Proofs.Ytgaimlmpfmbdoaa.lawOctetsWrites
