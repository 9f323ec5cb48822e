/- At everything that may come CameOk answers as the specification, and writes into no argument.
   The row's step: the statement of FnExactCameOk out of its walk. -/
import Derived.Test.YtgefkmdnopfbhaaRows
import Derived.Test.YtgefkmdnopfbhaaLawCame
import Derived.Test.YtgefkmdnopfbhaaOpenC
import Derived.WalkKit
import Derived.ProofKit
import Derived.OpenShut
import Derived.ShutString
import Derived.Below
import Derived.Lib.SmallJoins
import Derived.ChangeOld
namespace Go.Proofs.Ytgefkmdnopfbhaa.fnExactCameOk
open Go.ChangeShapes Go.WideShapes Go.ChangeAt Go.RowKit Go.Joins
open Go.ChangeMaps (open_string shut_string)
set_option linter.unusedVariables false

theorem own : ownKnob Try.prog.godebug = none := by kernel_rfl
theorem laidOut : laidOutB Try.prog = true := by kernel_rfl

set_option maxRecDepth 100000 in
theorem lifted (os : Os) (started : os.Started) (H : Type) (enc : TypeId × Value → H) :
    ReturnsInHanded {} Try.checked os 4 .any (Rows.fnExactCameOkSpec.pre6 enc Try.prog Try.f4 Rows.fnExactCameOkRow.domain false) (Rows.fnExactCameOkSpec.post enc Try.prog Try.f4 false true false false) := by
  refine returnsInHanded_of_change (C := Try.checked) own started (by kernel_rfl) Try.func4
    (ChangeSpec.witness6 (enc := enc) (C := Try.checked) false ⟨#[], #[.agg #[.int .i64 0, .int .i64 0, .string ByteArray.empty, .bool false, .int .i64 0, .int .i64 0, .string ByteArray.empty]], []⟩ 8 (by kernel_rfl) (by kernel_rfl) (by kernel_rfl) (by kernel_rfl)) ?_
  intro W base args ds gs before hval0 hW hcnd _
  have hval : ∀ (j : Nat) t v, Try.f4.params[j]? = some t → args[j]? = some v → Value.okWide Try.prog W .any base t v := hval0
  have hW' := hW
  obtain ⟨p, q, hA0, hV, rfl, hfz, hnd⟩ := hW
  have hA : DataW.TrodAll enc Try.prog W 0 (fun _ => true) true Try.f4.params.toList args.toList ds p := hA0
  rw [Try.params4] at hA hval
  obtain ⟨v0, vs0, d0, ds0, p0, q0, hargs, rfl, rfl, h0, r0⟩ := trodAll_cons hA
  obtain ⟨rfl, rfl, rfl⟩ := trodAll_nil r0
  obtain rfl : args = #[v0] := by cases args; simp_all
  obtain ⟨rfl, rfl⟩ := trodVars_none hV
  have k0 := h0
  have lt0 : ∀ x ∈ p0, x.block < W.heap.size := by obtain ⟨m, hm⟩ := k0; exact DataW.trod_lt m _ _ _ hm
  have w0 : ∃ (k p : Int) (nm : ByteArray) (o : Bool) (vk vn : Int) (vt : ByteArray), v0 = cameV k p nm o vk vn vt ∧ nm.size ≤ maxLen ∧ vt.size ≤ maxLen := by
    obtain ⟨fuel, hf⟩ := h0
    obtain ⟨k, p, nm, o, vk, vn, vt, hcs, h1, h2⟩ := open_came fuel _ _ hf
    refine ⟨k, p, nm, o, vk, vn, vt, ?_, h1, h2⟩
    cases v0 with
    | agg cs =>
      have : cs.toList = _ := hcs
      rw [cameV, ← this]
    | _ => simp [Value.cells] at hcs
  obtain ⟨k, p, nm, o, vk, vn, vt, rfl, z1, z2⟩ := w0
  clear hA0 hval0
  refine (lawCameOk_any k p nm o vk vn vt z1 z2 W).mono fun e W' ⟨he, hg⟩ => ?_
  subst he
  exact ⟨_, rfl, _, _, _, [], _, [], hW', trodAll_mk1 (shut_bool Try.underlying4 _), (trodAll_cons_mk (Below.trod laidOut (by kernel_rfl) (of_decide_eq_true (by kernel_rfl)) k0 hg lt0) trodAll_mk0), rfl, hg.frame _, fun h => by cases h⟩

theorem over : Rows.fnExactCameOkRow.holds Try.pinned (OpenSpec.ofChange Rows.fnExactCameOkSpec) :=
  OpenClaim.holds_of_wide 4 Try.f4 rfl rfl rfl rfl rfl rfl rfl ⟨rfl, rfl, rfl, rfl, rfl⟩ rfl rfl rfl rfl rfl (by kernel_rfl) Try.func4 (by kernel_rfl)
    (of_decide_eq_true (by kernel_rfl)) (by unfold Func.isWrapper; first | (rw [if_pos (by decide +kernel)]; kernel_rfl) | (rw [if_neg (by decide +kernel)]; exact ⟨rfl, rfl⟩))
    (fun os started H enc _ => lifted os started H enc)

end Go.Proofs.Ytgefkmdnopfbhaa.fnExactCameOk
namespace Go.Proofs.Ytgefkmdnopfbhaa
theorem fnExactCameOk_holds : Rows.FnExactCameOkSaid := fnExactCameOk.over
end Go.Proofs.Ytgefkmdnopfbhaa
