/- Joined: RowFnExactLogMend. -/
import Derived.Test.YtbckbfjnifafaaaGreatDoorRows
import Derived.Test.YtbckbfjnifafaaaGreatDoorTie
import Derived.Test.YtbckbfjnifafaaaGreatDoorCards
import Derived.Test.YtbckbfjnifafaaaGreatDoorJRowL
import Derived.Test.YtbckbfjnifafaaaGreatDoorRowLMc
import Derived.WalkKit
import Derived.ProofKit
import Derived.OpenShut
import Derived.ShutString
import Derived.Below
import Derived.Lib.SmallJoins
import Derived.LaidMore
import Derived.Leaving
import Derived.Lay
import Derived.Conc.Holds
import Derived.Stop.Joined
import Derived.SevenTiedAt
/- At every log LogMend answers as the specification, and writes into no argument; the library's tables, errors and error type standing as their own text lays them (the card ties that); no other condition.
   The card of FnExactLogMend, out of the row's step. -/
namespace Go.Proofs.YtbckbfjnifafaaaGreatDoor.fnExactLogMend
open Go.ChangeShapes Go.WideShapes Go.ChangeAt Go.RowKit Go.Joins
open Go.ChangeMaps (open_string shut_string)
set_option linter.unusedVariables false

/-- who is alone at the return leaves nobody but such as leave -/
theorem leaving_of {a : Assume} {C : Checked} {os : Os} {f : FuncId} {r : Reach} {Pre : World → Array Value → Prop} {Post : World → Array Value → Value → World → Prop} (h : ReturnsInHanded a C os f r Pre Post) : ReturnsInLeavingWide a C os f r Pre Post := fun he => by
  obtain ⟨h1, h2, h3, h4, h5⟩ := h he
  refine ⟨h1, h2, h3, h4, fun w tape i hf => ?_⟩
  obtain ⟨n, v, w', a1, a2, a3, a4, ⟨j, last, b1, b2, b3⟩, a5⟩ := h5 w tape i hf
  exact ⟨n, v, w', a1, a2, a3, a4, ⟨j, last, b1, b2, ⟨b3.2.1, onlyLeaving_of_quiet b3.1, b3.2.2⟩⟩, a5⟩

theorem over : Rows.FnExactLogMendSaid :=
  OpenClaim.holds_of_wide_leaving 6 Tryz.f6 rfl rfl rfl rfl rfl rfl rfl ⟨rfl, rfl, rfl, rfl, rfl⟩ rfl rfl rfl rfl rfl (by kernel_rfl) Tryz.func6 closed
    (of_decide_eq_true (by kernel_rfl)) (by unfold Func.isWrapper; first | (rw [if_pos (by decide +kernel)]; kernel_rfl) | (rw [if_neg (by decide +kernel)]; exact ⟨rfl, rfl⟩))
    (fun os started H enc _ => leaving_of (lifted os started H enc))

theorem looks_ok (f : FuncId) (fn : Func) (hf : Tryz.prog.funcNamed "loop.example/backstitch/laws.FnExactLogMend" = some f) (hfn : Tryz.prog.funcs[f]? = some fn) : true = Tryz.prog.looks [] ∧ ∀ (j : Nat) t, fn.params[j]? = some t → Tryz.prog.wantsStandIn t = false := by
  obtain rfl : f = 6 := Option.some.inj ((show Tryz.prog.funcNamed "loop.example/backstitch/laws.FnExactLogMend" = some 6 by kernel_rfl).symm.trans hf) |>.symm
  obtain rfl : fn = Tryz.f6 := (Option.some.inj (Tryz.func6.symm.trans hfn)).symm
  exact ⟨by kernel_rfl, fun j t ht => by
    rw [Tryz.params6] at ht
    have hm : t ∈ [24] := by simpa using Array.mem_of_getElem? ht
    have hall : ([24].all fun u => !Tryz.prog.wantsStandIn u) = true := by kernel_rfl
    exact (show Tryz.prog.wantsStandIn t = false by simpa using List.all_eq_true.1 hall t hm)⟩

theorem carded : Rows.FnExactLogMendCardSaid := by
  have h6 : Claim7.isSixth { stood := { row := Rows.fnExactLogMendRow, standIns := [], harness := (true, "d5d5bd00790da9c2181430b2c5595a60a602e5fe1e19df474acbf05a712c2abc"), looks := true }, kinds := [] } = false := by kernel_rfl
  have h1 := Claim7.tied_new_at .later [.data, .data, .data, .data, .handle, .sentinel, .sentinel, .pinned] true (Claim7.new_of_sixth over (true, "d5d5bd00790da9c2181430b2c5595a60a602e5fe1e19df474acbf05a712c2abc") true rfl ⟨rfl, rfl⟩ (by kernel_rfl) h6 looks_ok) (by kernel_rfl)
  exact ⟨h1, (fun D hD => by cases hD), fnExactLogMend_row_tie, (fun h => by cases h), (by kernel_rfl)⟩
end Go.Proofs.YtbckbfjnifafaaaGreatDoor.fnExactLogMend
namespace Go.Proofs.YtbckbfjnifafaaaGreatDoor
theorem fnExactLogMend_holds : Rows.FnExactLogMendCardSaid := fnExactLogMend.carded
end Go.Proofs.YtbckbfjnifafaaaGreatDoor
