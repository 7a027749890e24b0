/- For a statement 'for every input the law returns true and its arguments read as they did', over a row that lists variables and may bound its arguments in bulk: from a walk that says 'true, and old memory stands' to the contract that the row asks. No program is named. -/
import Derived.Test.YtpfljooceppcbaaDoorLawBare
import Derived.Deep.DeepHandedRow
namespace Go.Proofs.YtpfljooceppcbaaDoor.LK
open Go Go.ChangeShapes Go.WideShapes Go.ChangeAt Go.RowKit

theorem mild (m : Bool) (C : Checked) (f : FuncId) (w0 : World) (args : Array Value) : ({ modest := m } : Assume).holds C.prog (lone (Frame.enter C.prog f args .normal) [] (w0.forCall (fun _ _ => 0) ⟨#[], args, []⟩)) := by
  simp only [Assume.holds]
  exact ⟨by simp, by simp, fun _ => Modest.zero, by simp, by simp⟩
theorem lifted_row {H : Type} {enc : TypeId × Value → H} {C : Checked} {os : Os} {f : FuncId} {fn : Func} {s : OpenSpec} {F : Stop.Interp} {s0 : ChangeSpec} {tb : TypeId} {laid : List (String × DataW Unit)} {dom : List PathCond} (hdom : dom = [])
    (own : ownKnob C.prog.godebug = none) (started : os.Started) (noInit : C.prog.inits.idxOf? f = none) (hfn : C.prog.funcs[f]? = some fn)
    (hl : laidOutB C.prog = true) (hat : s.at F = s0) (hsv : s.vars = []) (hvars : s0.vars = []) (hbv : s.bare.plain.varTypes C.prog = [])
    (hread : fn.params.toList.all (fun t => C.prog.readableRec t && decide (t < C.prog.types.size)) = true)
    (hres : fn.resultTypes = #[tb]) (htb : C.prog.underlying tb = some .bool)
    (hspec : ∀ (ds : List (DataW H)), ds.length = fn.params.toList.length → s0.fn H ds = { results := [.lit (.bool true)], args := ds })
    (w0 : World) (args : Array Value) (fuel : Nat) {x : List (DataW H) × List (DataW H) × List MemPlace} (hos : w0.os = os) (hsh : (w0.forCall (fun _ _ => 0) ⟨#[], args, []⟩).Shaped C.prog)
    (hok : Input.okWideB C.prog (w0.forCall (fun _ _ => 0) ⟨#[], args, []⟩) f ⟨#[], args, []⟩ = true)
    (hx : DataW.whole enc C.prog (w0.forCall (fun _ _ => 0) ⟨#[], args, []⟩).memory fn.params.toList s.vars false args.toList fuel = some x)
    (hkk : ∀ k, s.cond = some k → k H (x.1 ++ x.2.1) = true) (hsz : s.bare.sizedB enc C.prog fn false (w0.forCall (fun _ _ => 0) ⟨#[], args, []⟩).memory args fuel = true)
    (hlm : laidMetH C.prog laid (w0.forCall (fun _ _ => 0) ⟨#[], args, []⟩).memory)
    (law : ∀ (W : World) (base : Nat) (args : Array Value) (ds : List (DataW H)) (ps : List MemPlace),
      (∀ (j : Nat) t v, fn.params[j]? = some t → args[j]? = some v → Value.okWide C.prog W .any base t v) →
      DataW.TrodAll enc C.prog W 0 (fun _ => true) true fn.params.toList args.toList ds ps →
      (DataW.weightsEach C.prog fn.params.toList ds).all (· ≤ reachBytes) = true →
      (∀ k, s.cond = some k → k H ds = true) → W.ShapedOpen C.prog → laidMetH C.prog laid W →
      Calls C.prog f args W (True_ W)) :
    ReturnsInHanded {} C os f .any (s.preRow enc C.prog fn dom false laid) ((s.at F).post enc C.prog fn false true false false) := by
  subst hdom
  refine returnsInHanded_of_row (C := C) (s := s) (F := F) own started noInit hfn
    ⟨w0, fun _ _ => 0, ⟨#[], args, []⟩, hos, hsh, (Input.okWide_of_okWideB (base := 0) hok).1, (Input.okWide_of_okWideB hok).2, OpenSpec.preRow_of_cond fuel hx rfl hkk hsz hlm, mild false _ _ _ _⟩ ?_
  intro W base args ds gs before hval hw' _ hk hwt hlaid hshape _
  have hW := hw'
  obtain ⟨p, q, hA, hV, rfl, hfz, hnd⟩ := hW
  rw [hsv] at hV
  obtain ⟨rfl, rfl⟩ := trodVars_none hV
  rw [hbv, List.append_nil, List.append_nil] at hwt
  simp only [List.append_nil] at hk
  refine (law W base args ds p hval hA hwt hk hshape hlaid).mono fun e W' ⟨he, hb⟩ => ?_
  subst he
  refine ⟨_, rfl, ?_⟩
  rw [hat]
  rw [hsv] at hw'
  exact post_of_true hl hvars hread hres htb hspec (by rw [hvars]; exact hw') hA hb
end Go.Proofs.YtpfljooceppcbaaDoor.LK
