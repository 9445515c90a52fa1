/-
  THE FRAME OF A PROOF OF THE SECOND FORM ('..UptoSaid'), once for all laws of a seat: from 'within the bound the call returns true and turns nothing that was there' to the row.
-/
import Derived.Test.YtedandbkdjmfhaaFrame
import Derived.JoinedCond
import Derived.Deep.CondSized
namespace Go.Proofs.Ytedandbkdjmfhaa
open Go.ChangeShapes Go.WideShapes Go.ChangeAt Go.RowKit
namespace Frame

/-- What a law's own proof is handed, and owes: Walks, with the bound. -/
def WalksU (F : FuncId) (ts : List TypeId) : Prop :=
  ∀ (H : Type) (enc : TypeId × Value → H) (W : World) (args : Array Value) (ds : List (DataW H)) (ps : List MemPlace) (base : Nat),
    (∀ (j : Nat) t v, ts[j]? = some t → args[j]? = some v → Value.okWide Try.prog W .any base t v) →
    DataW.TrodAll enc Try.prog W 0 (fun _ => true) true ts args.toList ds ps →
    (DataW.weightsEach Try.prog ts ds).all (· ≤ reachBytes) = true →
    Rows.uptoBulkAll ds ≤ 1048576 →
    Calls Try.prog F args W fun e w' => e = .returned (.bool true) ∧ Below W.heap.size W w'

set_option maxRecDepth 100000 in
theorem liftedU {os : Os} {started : os.Started} {H : Type} {enc : TypeId × Value → H} {F : FuncId} {fn : Func} {s : ChangeSpec} {boolT : TypeId} (FF : Stop.Interp) (hu : Try.prog.underlying boolT = some .bool)
    (hini : Try.checked.prog.inits.idxOf? F = none) (hfn : Try.checked.prog.funcs[F]? = some fn) {n : Nat} (hn : fn.params.toList.length = n) (hs : Says s n)
    (hread : (fn.params.toList.all fun t => Try.prog.readableRec t && decide (t < Try.prog.types.size)) = true) (hres : fn.resultTypes = #[boolT])
    (witness : ∃ (w : World) (tape : Tape) (i : Input), w.os = os ∧ (w.forCall tape i).Shaped Try.checked.prog ∧ i.vars = [] ∧ Input.okWide Try.checked.prog (w.forCall tape i) .any w.heap.size F i ∧
      (Rows.OpenSpec.upto s).pre6 enc Try.checked.prog fn [] false (w.forCall tape i).memory i.args ∧ ({} : Assume).holds Try.checked.prog (lone (Go.Frame.enter Try.checked.prog F i.args .normal) [] (w.forCall tape i)))
    (walk : WalksU F fn.params.toList) :
    ReturnsInHanded {} Try.checked os F .any ((Rows.OpenSpec.upto s).pre6 enc Try.prog fn [] false) (((Rows.OpenSpec.upto s).at FF).post enc Try.prog fn false true false false) := by
  refine returnsInHanded_of_cond_sized (C := Try.checked) (s := Rows.OpenSpec.upto s) (k := Rows.uptoSmall) rfl own started hini hfn witness ?_
  intro W base args ds gs before hval0 hW0 _ hk hsz0 _
  have hval : ∀ (j : Nat) t v, fn.params[j]? = some t → args[j]? = some v → Value.okWide Try.prog W .any base t v := hval0
  have hW : DataW.Whole enc Try.prog fn.params.toList s.vars false W args.toList ds gs before := hW0
  have hsz : (DataW.weightsEach Try.prog (fn.params.toList ++ s.plain.varTypes Try.prog) (ds ++ gs)).all (· ≤ reachBytes) = true := hsz0
  have hW' := hW
  obtain ⟨p, q, hA0, hV, rfl, hfz, hnd⟩ := hW
  have hA : DataW.TrodAll enc Try.prog W 0 (fun _ => true) true fn.params.toList args.toList ds p := hA0
  have hlen : ds.length = n := (trodAll_len hA).trans hn
  have hvar : s.plain.varTypes Try.prog = [] := by
    simp [DataSpec.varTypes, ChangeSpec.plain, hs.vars]
  rw [hs.vars] at hV
  obtain ⟨rfl, rfl⟩ := trodVars_none hV
  rw [hvar, List.append_nil, List.append_nil] at hsz
  rw [List.append_nil] at hk
  have hbd : Rows.uptoBulkAll ds ≤ 1048576 := of_decide_eq_true hk
  refine (walk H enc W args ds p base (fun j t v h1 h2 => hval j t v (by simpa using h1) h2) hA hsz hbd).mono fun e W' ⟨he, bel⟩ => ?_
  subst he
  refine ⟨_, rfl, ds, [], _, [], p, [], hW', ?_, ?_, ?_, bel.frame _, fun h => by cases h⟩
  · rw [List.append_nil]
    have h1 := hs.results H ds hlen
    have h2 : ((Rows.OpenSpec.upto s).at FF).fn H ds = s.fn H ds := rfl
    rw [h2, h1, hres]
    exact trodAll_mk1 (shut_bool hu _)
  · rw [List.append_nil]
    have h2 : ((Rows.OpenSpec.upto s).at FF).fn H ds = s.fn H ds := rfl
    rw [h2, hs.args H ds hlen]
    exact trodAll_back laidOut bel hread hA
  · rw [List.append_nil]
    have h2 : ((Rows.OpenSpec.upto s).at FF).fn H ds = s.fn H ds := rfl
    have h3 : ((Rows.OpenSpec.upto s).at FF).vars = s.vars := rfl
    rw [h2, hs.left H ds hlen, h3, hs.vars]
    rfl
end Frame
end Go.Proofs.Ytedandbkdjmfhaa
