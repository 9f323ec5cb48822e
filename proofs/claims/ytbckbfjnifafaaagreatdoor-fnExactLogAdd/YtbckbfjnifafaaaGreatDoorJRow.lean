/- Joined: RowLDc RowFnExactLogAdd. -/
import Derived.Test.YtbckbfjnifafaaaGreatDoorRows
import Derived.Test.YtbckbfjnifafaaaGreatDoorTie
import Derived.Test.YtbckbfjnifafaaaGreatDoorCards
import Derived.WalkKit
import Derived.ProofKit
import Derived.OpenShut
import Derived.ShutString
import Derived.Below
import Derived.Lib.SmallJoins
import Derived.LaidMore
import Derived.Leaving
import Derived.Lay
import Derived.Conc.Holds
import Derived.Stop.Joined
import Derived.SevenTiedAt
import Derived.Test.YtbckbfjnifafaaaGreatDoorJRowL
/- Closed facts of the row of FnExactLogAdd. -/
namespace Go.Proofs.YtbckbfjnifafaaaGreatDoor.fnExactLogAdd
open Go.ChangeShapes Go.WideShapes Go.ChangeAt Go.RowKit Go.Joins
set_option linter.unusedVariables false
theorem c_wf : Rows.fnExactLogAddRow.wf (OpenSpec.ofChange Rows.fnExactLogAddSpec) = true := by kernel_rfl
theorem c_lo : laidOutB Tryz.prog = true := by kernel_rfl
theorem c_mr : mapsRowed Tryz.prog = true := by kernel_rfl
theorem c_ip : (Rows.fnExactLogAddRow.inPlace == Tryz.prog.inPlace 5) = true := by kernel_rfl
theorem c_uf : (Rows.fnExactLogAddRow.unfollowed == Tryz.prog.unfollowed 5) = true := by kernel_rfl
theorem c_rc : (Rows.fnExactLogAddRow.recurses == Tryz.prog.recurses 5) = true := by kernel_rfl
theorem c_vn : (Rows.fnExactLogAddRow.named == Tryz.prog.varsNamed 5) = true := by kernel_rfl
theorem c_pk : (Rows.fnExactLogAddRow.plainKeys == Tryz.prog.plainKeys) = true := by kernel_rfl
theorem c_sh : Tryz.prog.stopsHeard = true := by kernel_rfl
theorem c_me : Tryz.prog.mayEnter = true := by kernel_rfl
theorem c_lf : (Rows.fnExactLogAddRow.lifted == Tryz.prog.liftsFinal) = true := by kernel_rfl
theorem closed : joinedFacts Tryz.prog 5 Tryz.f5 Rows.fnExactLogAddSpec Rows.fnExactLogAddRow = true := by
  unfold joinedFacts
  rw [c_wf, c_lo, c_mr, c_ip, c_uf, c_rc, c_vn, c_pk, c_sh, c_me, c_lf]
  kernel_rfl
end Go.Proofs.YtbckbfjnifafaaaGreatDoor.fnExactLogAdd

/- At every log and act LogAdd answers as the specification, and writes into no argument; the library's tables, errors and error type standing as their own text lays them (the card ties that); no other condition.
   The card of FnExactLogAdd, out of the row's step. -/
namespace Go.Proofs.YtbckbfjnifafaaaGreatDoor.fnExactLogAdd
open Go.ChangeShapes Go.WideShapes Go.ChangeAt Go.RowKit Go.Joins
open Go.ChangeMaps (open_string shut_string)
set_option linter.unusedVariables false

/-- who is alone at the return leaves nobody but such as leave -/
theorem leaving_of {a : Assume} {C : Checked} {os : Os} {f : FuncId} {r : Reach} {Pre : World → Array Value → Prop} {Post : World → Array Value → Value → World → Prop} (h : ReturnsInHanded a C os f r Pre Post) : ReturnsInLeavingWide a C os f r Pre Post := fun he => by
  obtain ⟨h1, h2, h3, h4, h5⟩ := h he
  refine ⟨h1, h2, h3, h4, fun w tape i hf => ?_⟩
  obtain ⟨n, v, w', a1, a2, a3, a4, ⟨j, last, b1, b2, b3⟩, a5⟩ := h5 w tape i hf
  exact ⟨n, v, w', a1, a2, a3, a4, ⟨j, last, b1, b2, ⟨b3.2.1, onlyLeaving_of_quiet b3.1, b3.2.2⟩⟩, a5⟩

theorem over : Rows.FnExactLogAddSaid :=
  OpenClaim.holds_of_wide_leaving 5 Tryz.f5 rfl rfl rfl rfl rfl rfl rfl ⟨rfl, rfl, rfl, rfl, rfl⟩ rfl rfl rfl rfl rfl (by kernel_rfl) Tryz.func5 closed
    (of_decide_eq_true (by kernel_rfl)) (by unfold Func.isWrapper; first | (rw [if_pos (by decide +kernel)]; kernel_rfl) | (rw [if_neg (by decide +kernel)]; exact ⟨rfl, rfl⟩))
    (fun os started H enc _ => leaving_of (lifted os started H enc))

theorem looks_ok (f : FuncId) (fn : Func) (hf : Tryz.prog.funcNamed "loop.example/backstitch/laws.FnExactLogAdd" = some f) (hfn : Tryz.prog.funcs[f]? = some fn) : true = Tryz.prog.looks [] ∧ ∀ (j : Nat) t, fn.params[j]? = some t → Tryz.prog.wantsStandIn t = false := by
  obtain rfl : f = 5 := Option.some.inj ((show Tryz.prog.funcNamed "loop.example/backstitch/laws.FnExactLogAdd" = some 5 by kernel_rfl).symm.trans hf) |>.symm
  obtain rfl : fn = Tryz.f5 := (Option.some.inj (Tryz.func5.symm.trans hfn)).symm
  exact ⟨by kernel_rfl, fun j t ht => by
    rw [Tryz.params5] at ht
    have hm : t ∈ [24, 39] := by simpa using Array.mem_of_getElem? ht
    have hall : ([24, 39].all fun u => !Tryz.prog.wantsStandIn u) = true := by kernel_rfl
    exact (show Tryz.prog.wantsStandIn t = false by simpa using List.all_eq_true.1 hall t hm)⟩

theorem carded : Rows.FnExactLogAddCardSaid := by
  have h6 : Claim7.isSixth { stood := { row := Rows.fnExactLogAddRow, standIns := [], harness := (true, "d5d5bd00790da9c2181430b2c5595a60a602e5fe1e19df474acbf05a712c2abc"), looks := true }, kinds := [] } = false := by kernel_rfl
  have h1 := Claim7.tied_new_at .later [.data, .data, .data, .data, .handle, .sentinel, .sentinel, .pinned] true (Claim7.new_of_sixth over (true, "d5d5bd00790da9c2181430b2c5595a60a602e5fe1e19df474acbf05a712c2abc") true rfl ⟨rfl, rfl⟩ (by kernel_rfl) h6 looks_ok) (by kernel_rfl)
  exact ⟨h1, (fun D hD => by cases hD), fnExactLogAdd_row_tie, (fun h => by cases h), (by kernel_rfl)⟩
end Go.Proofs.YtbckbfjnifafaaaGreatDoor.fnExactLogAdd
namespace Go.Proofs.YtbckbfjnifafaaaGreatDoor
theorem fnExactLogAdd_holds : Rows.FnExactLogAddCardSaid := fnExactLogAdd.carded
end Go.Proofs.YtbckbfjnifafaaaGreatDoor
