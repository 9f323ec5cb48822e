/- A call of a function value of which is known that it can be called. -/
import Derived.Test.YtamkncfdfaejjabGreatDoorLeafB
import Derived.Calls
namespace Go.Proofs.YtamkncfdfaejjabGreatDoor
open Go.RowKit
set_option linter.unusedVariables false
set_option linter.unusedSimpArgs false
/-- a function that can be called -/
def Fun (id : FuncId) : Prop := ∃ fn, Tryz.prog.funcs[id]? = some fn ∧ (fn.name == "runtime.NumGoroutine") = false ∧ fn.body.isNone = false
theorem run_fun {id : FuncId} (h : Fun id) (args : Array Value) (W : World) : (callFunc id args).run Tryz.prog W = .ok (.enter id args) W := by
  obtain ⟨fn, h1, h2, h3⟩ := h
  have h2' : ¬ fn.name = "runtime.NumGoroutine" := by simpa using h2
  have h3' : ¬ fn.body = none := fun hh => by rw [hh] at h3; cases h3
  simp [callFunc, h1, h2', h3']
theorem wp_dyn {ops : Array Oper} {rest : List Oper} {o : Oper} {a : Act} {W : World} {Q : Exit → Act → World → Prop} (hg : o.guard = none) (c : Operand) (args : Array Operand) (ats : Array TypeId)
    (hop : o.op = .call { callee := .value c, args := args, argTypes := ats }) (id : FuncId) (caps : Array Value) (hc : a.eval c = .func (.func id) #[] caps) (hF : Fun id) {R : Ending → World → Prop}
    (h : Calls Tryz.prog id ((args.map a.eval) ++ caps) W R) (hR : ∀ e w', R e w' → ∃ v, e = .returned v ∧ wpList Tryz.prog ops Q rest (a.put o.dst v) w') : wpList Tryz.prog ops Q (o :: rest) a W :=
  wpList_plain hg fun K hK => by
    have hrun : (execOp a.eval o).run Tryz.prog W = .ok (.enter id ((args.map a.eval) ++ caps)) W := by
      simp [execOp, hop, resolve, Deferred.ofValue, hc, invoke, run_fun hF, Result.andThen]
    unfold Oper.wp
    rw [hrun, Oper.upon_enter]
    refine h.mono fun e w' hr => ?_
    obtain ⟨v, rfl, hw⟩ := hR e w' hr
    exact hK _ _ hw
end Go.Proofs.YtamkncfdfaejjabGreatDoor
