/- At every cache and every number CacheDrop answers as the specification, and writes into no argument.
   The row's step: the statement of FnExactCacheDrop out of its walk. -/
import Derived.Test.YthkklmfjdjiafaaRows
import Derived.Test.YthkklmfjdjiafaaLawCa
import Derived.Test.YthkklmfjdjiafaaOpenCa
import Derived.WalkKit
import Derived.ProofKit
import Derived.OpenShut
import Derived.ShutString
import Derived.Below
import Derived.Lib.SmallJoins
import Derived.ChangeOld
namespace Go.Proofs.Ythkklmfjdjiafaa.fnExactCacheDrop
open Go.ChangeShapes Go.WideShapes Go.ChangeAt Go.RowKit Go.Joins
open Go.ChangeMaps (open_string shut_string)
set_option linter.unusedVariables false

theorem own : ownKnob Try.prog.godebug = none := by kernel_rfl
theorem laidOut : laidOutB Try.prog = true := by kernel_rfl

set_option maxRecDepth 100000 in
theorem lifted (os : Os) (started : os.Started) (H : Type) (enc : TypeId × Value → H) :
    ReturnsInHanded {} Try.checked os 5 .any (Rows.fnExactCacheDropSpec.pre6 enc Try.prog Try.f5 Rows.fnExactCacheDropRow.domain false) (Rows.fnExactCacheDropSpec.post enc Try.prog Try.f5 false true false false) := by
  refine returnsInHanded_of_change (C := Try.checked) own started (by kernel_rfl) Try.func5
    (ChangeSpec.witness6 (enc := enc) (C := Try.checked) false ⟨#[], #[.agg #[.slice none 0 0], .int .i64 0], []⟩ 8 (by kernel_rfl) (by kernel_rfl) (by kernel_rfl) (by kernel_rfl)) ?_
  intro W base args ds gs before hval0 hW hcnd _
  have hval : ∀ (j : Nat) t v, Try.f5.params[j]? = some t → args[j]? = some v → Value.okWide Try.prog W .any base t v := hval0
  have hW' := hW
  obtain ⟨p, q, hA0, hV, rfl, hfz, hnd⟩ := hW
  have hA : DataW.TrodAll enc Try.prog W 0 (fun _ => true) true Try.f5.params.toList args.toList ds p := hA0
  rw [Try.params5] at hA hval
  obtain ⟨v0, vs0, d0, ds0, p0, q0, hargs, rfl, rfl, h0, r0⟩ := trodAll_cons hA
  obtain ⟨v1, vs1, d1, ds1, p1, q1, rfl, rfl, rfl, h1, r1⟩ := trodAll_cons r0
  obtain ⟨rfl, rfl, rfl⟩ := trodAll_nil r1
  obtain rfl : args = #[v0, v1] := by cases args; simp_all
  obtain ⟨rfl, rfl⟩ := trodVars_none hV
  obtain ⟨t, rfl, rfl, rfl, wt⟩ := open_int Try.underlying3 (hval 1 3 v1 rfl rfl) h1
  have ht2 : t ≤ 9223372036854775807 := by
    have := wt
    simp [Lit.wf] at this
    omega
  have k0 := h0
  have lt0 : ∀ x ∈ p0, x.block < W.heap.size := by obtain ⟨m, hm⟩ := k0; exact DataW.trod_lt m _ _ _ hm
  have w0 : ∃ (l : List It) (v : Value), v0 = .agg #[v] ∧ (∀ p ∈ l, p.Wf) ∧ IRow W.heap.size W l v := by
    obtain ⟨fuel, hf⟩ := h0
    obtain ⟨l, v, hcs, h1, h2⟩ := open_cache fuel _ _ hf
    obtain ⟨cs, hv0, _⟩ := Go.WideShapes.okWide_struct Try.underlying29 (hval 0 29 v0 rfl rfl)
    rw [hv0] at hcs
    have hl : cs.toList = [v] := hcs
    refine ⟨l, v, ?_, h1, h2⟩
    rw [hv0]
    cases cs with
    | mk l => simp only at hl; rw [hl]
  obtain ⟨l, v, rfl, z1, z2⟩ := w0
  clear hA0 hval0
  refine (lawCacheDrop_any l t z1 v W z2).mono fun e W' ⟨he, hg⟩ => ?_
  subst he
  exact ⟨_, rfl, _, _, _, [], _, [], hW', trodAll_mk1 (shut_bool Try.underlying4 _), (trodAll_cons_mk (Below.trod laidOut (by kernel_rfl) (of_decide_eq_true (by kernel_rfl)) k0 hg lt0) (trodAll_cons_mk (shut_int Try.underlying3 wt) trodAll_mk0)), rfl, hg.frame _, fun h => by cases h⟩

theorem over : Rows.fnExactCacheDropRow.holds Try.pinned (OpenSpec.ofChange Rows.fnExactCacheDropSpec) :=
  OpenClaim.holds_of_wide 5 Try.f5 rfl rfl rfl rfl rfl rfl rfl ⟨rfl, rfl, rfl, rfl, rfl⟩ rfl rfl rfl rfl rfl (by kernel_rfl) Try.func5 (by kernel_rfl)
    (of_decide_eq_true (by kernel_rfl)) (by unfold Func.isWrapper; first | (rw [if_pos (by decide +kernel)]; kernel_rfl) | (rw [if_neg (by decide +kernel)]; exact ⟨rfl, rfl⟩))
    (fun os started H enc _ => lifted os started H enc)

end Go.Proofs.Ythkklmfjdjiafaa.fnExactCacheDrop
namespace Go.Proofs.Ythkklmfjdjiafaa
theorem fnExactCacheDrop_holds : Rows.FnExactCacheDropSaid := fnExactCacheDrop.over
end Go.Proofs.Ythkklmfjdjiafaa
