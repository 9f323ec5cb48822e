/- Joined: RowFnExactRecordGet. -/
import Derived.Test.YtkkiolljbklccaaGreatDoorRows
import Derived.Test.YtkkiolljbklccaaGreatDoorTie
import Derived.Test.YtkkiolljbklccaaGreatDoorCards
import Derived.Test.YtkkiolljbklccaaGreatDoorJRowL
import Derived.Test.YtkkiolljbklccaaGreatDoorRowRGc
import Derived.WalkKit
import Derived.ProofKit
import Derived.OpenShut
import Derived.ShutString
import Derived.Below
import Derived.Lib.SmallJoins
import Derived.LaidMore
import Derived.Leaving
import Derived.Lay
import Derived.Conc.Holds
import Derived.Stop.Joined
import Derived.SevenTiedAt
/- At every text RecordGet answers as the specification, field by field; the library's tables, errors and error type standing as their own text lays them (the card ties that); no other condition.
   The card of FnExactRecordGet, out of the row's step. -/
namespace Go.Proofs.YtkkiolljbklccaaGreatDoor.fnExactRecordGet
open Go.ChangeShapes Go.WideShapes Go.ChangeAt Go.RowKit Go.Joins
open Go.ChangeMaps (open_string shut_string)
set_option linter.unusedVariables false

/-- who is alone at the return leaves nobody but such as leave -/
theorem leaving_of {a : Assume} {C : Checked} {os : Os} {f : FuncId} {r : Reach} {Pre : World → Array Value → Prop} {Post : World → Array Value → Value → World → Prop} (h : ReturnsInHanded a C os f r Pre Post) : ReturnsInLeavingWide a C os f r Pre Post := fun he => by
  obtain ⟨h1, h2, h3, h4, h5⟩ := h he
  refine ⟨h1, h2, h3, h4, fun w tape i hf => ?_⟩
  obtain ⟨n, v, w', a1, a2, a3, a4, ⟨j, last, b1, b2, b3⟩, a5⟩ := h5 w tape i hf
  exact ⟨n, v, w', a1, a2, a3, a4, ⟨j, last, b1, b2, ⟨b3.2.1, onlyLeaving_of_quiet b3.1, b3.2.2⟩⟩, a5⟩

theorem over : Rows.FnExactRecordGetSaid :=
  OpenClaim.holds_of_wide_leaving 6 Tryz.f6 rfl rfl rfl rfl rfl rfl rfl ⟨rfl, rfl, rfl, rfl, rfl⟩ rfl rfl rfl rfl rfl (by kernel_rfl) Tryz.func6 closed
    (of_decide_eq_true (by kernel_rfl)) (by unfold Func.isWrapper; first | (rw [if_pos (by decide +kernel)]; kernel_rfl) | (rw [if_neg (by decide +kernel)]; exact ⟨rfl, rfl⟩))
    (fun os started H enc _ => leaving_of (lifted os started H enc))

theorem looks_ok (f : FuncId) (fn : Func) (hf : Tryz.prog.funcNamed "loop.example/backstitch/laws.FnExactRecordGet" = some f) (hfn : Tryz.prog.funcs[f]? = some fn) : true = Tryz.prog.looks [] ∧ ∀ (j : Nat) t, fn.params[j]? = some t → Tryz.prog.wantsStandIn t = false := by
  obtain rfl : f = 6 := Option.some.inj ((show Tryz.prog.funcNamed "loop.example/backstitch/laws.FnExactRecordGet" = some 6 by kernel_rfl).symm.trans hf) |>.symm
  obtain rfl : fn = Tryz.f6 := (Option.some.inj (Tryz.func6.symm.trans hfn)).symm
  exact ⟨by kernel_rfl, fun j t ht => by
    rw [Tryz.params6] at ht
    have hm : t ∈ [9] := by simpa using Array.mem_of_getElem? ht
    have hall : ([9].all fun u => !Tryz.prog.wantsStandIn u) = true := by kernel_rfl
    exact (show Tryz.prog.wantsStandIn t = false by simpa using List.all_eq_true.1 hall t hm)⟩

theorem carded : Rows.FnExactRecordGetCardSaid := by
  have h6 : Claim7.isSixth { stood := { row := Rows.fnExactRecordGetRow, standIns := [], harness := (true, "83d5055a024622a7688e9c4c1b201e054f342568f58c145f3cf5c727780c2321"), looks := true }, kinds := [] } = false := by kernel_rfl
  have h1 := Claim7.tied_new_at .later [.data, .data, .data, .data, .handle, .sentinel, .sentinel, .pinned] true (Claim7.new_of_sixth over (true, "83d5055a024622a7688e9c4c1b201e054f342568f58c145f3cf5c727780c2321") true rfl ⟨rfl, rfl⟩ (by kernel_rfl) h6 looks_ok) (by kernel_rfl)
  exact ⟨h1, (fun D hD => by cases hD), fnExactRecordGet_row_tie, (fun h => by cases h), (by kernel_rfl)⟩
end Go.Proofs.YtkkiolljbklccaaGreatDoor.fnExactRecordGet
namespace Go.Proofs.YtkkiolljbklccaaGreatDoor
theorem fnExactRecordGet_holds : Rows.FnExactRecordGetCardSaid := fnExactRecordGet.carded
end Go.Proofs.YtkkiolljbklccaaGreatDoor
