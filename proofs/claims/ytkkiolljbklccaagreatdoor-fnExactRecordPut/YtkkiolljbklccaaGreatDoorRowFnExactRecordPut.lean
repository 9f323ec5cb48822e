/- At every act RecordPut answers as the specification, and writes into no argument; the library's tables and its own error type standing as their own text lays them (the card ties that); no other condition.
   The row's step and the card of FnExactRecordPut, out of its walk. -/
import Derived.Test.YtkkiolljbklccaaGreatDoorRows
import Derived.Test.YtkkiolljbklccaaGreatDoorTie
import Derived.Test.YtkkiolljbklccaaGreatDoorCards
import Derived.Test.YtkkiolljbklccaaGreatDoorRecA
import Derived.Test.YtkkiolljbklccaaGreatDoorOpenA
import Derived.WalkKit
import Derived.ProofKit
import Derived.OpenShut
import Derived.ShutString
import Derived.Below
import Derived.Lib.SmallJoins
import Derived.LaidMore
import Derived.Leaving
import Derived.Conc.Holds
import Derived.Stop.Joined
import Derived.SevenTiedAt
namespace Go.Proofs.YtkkiolljbklccaaGreatDoor.fnExactRecordPut
open Go.ChangeShapes Go.WideShapes Go.ChangeAt Go.RowKit Go.Joins
open Go.ChangeMaps (open_string shut_string)
set_option linter.unusedVariables false

theorem own : ownKnob Tryz.prog.godebug = none := by kernel_rfl
theorem laidOut : laidOutB Tryz.prog = true := by kernel_rfl
/-- the heap that the door's own run leaves meets the condition -/
theorem door_met (os : Os) (args : Array Value) : laidMetH Tryz.prog Rows.fnExactRecordPutRow.laid ((World.doorLaid Tryz.prog 79 os).forCall (fun _ _ => 0) ⟨#[], args, []⟩).memory :=
  laidMetH_of_parts (laidMet_of_run' 8 (by kernel_rfl) (by kernel_rfl)) (by kernel_rfl)

theorem gP : Tryz.prog.globalNamed "internal/strconv.uint64pow10" = some 1 := by kernel_rfl
theorem tP : (Tryz.prog.globals[1]?).map (·.type) = some 171 := by kernel_rfl
set_option maxRecDepth 100000 in
/-- what the condition gives the walk -/
theorem tab_of_laid {W : World} (h : laidMetH Tryz.prog Rows.fnExactRecordPutRow.laid W) : Tab W := by
  have h' : laidMet Tryz.prog [("math/bits.deBruijn32tab", Rows.laid_math_bits_deBruijn32tab), ("math/bits.deBruijn64tab", Rows.laid_math_bits_deBruijn64tab), ("internal/strconv.uint64pow10", Rows.laid_internal_strconv_uint64pow10)] W ∧ handlesMet Tryz.prog [("errors.errorType", Rows.laid_errors_errorType)] W := h
  obtain ⟨ps, ⟨g0, t0, cs0, f0, p0, q0, hg0, ht0, hv0, hd0, ⟨g1, t1, cs1, f1, p1, q1, hg1, ht1, hv1, hd1, ⟨g2, t2, cs2, f2, p2, q2, hg2, ht2, hv2, hd2, _, _⟩, _⟩, _⟩, _, _⟩ := h'.1
  obtain rfl := Option.some.inj (gP.symm.trans hg2)
  obtain rfl := Option.some.inj (tP.symm.trans ht2)
  have e0 : (Rows.laid_internal_strconv_uint64pow10 : DataW Unit) = Lib.tabData .u64 Lib.pow10Tab := rfl
  rw [e0] at hd2
  have := Lib.cells_of_tab Tryz.underlying171 Tryz.underlying132 (by kernel_rfl) (by kernel_rfl) hd2
  unfold Tab Lib.TabIs
  rw [hv2, ← this]
set_option maxRecDepth 100000 in
theorem lifted (os : Os) (started : os.Started) (H : Type) (enc : TypeId × Value → H) :
    ReturnsInHanded {} Tryz.checked os 5 .any (fun w args => (Rows.fnExactRecordPutSpec.pre enc Tryz.prog Tryz.f5 [] false w args ∧ laidMetH Tryz.prog Rows.fnExactRecordPutRow.laid w) ∧ sizedMet enc Tryz.prog Tryz.f5 (OpenSpec.ofChange Rows.fnExactRecordPutSpec) false w args)
      (Rows.fnExactRecordPutSpec.post enc Tryz.prog Tryz.f5 false true false false) := by
  refine returnsInHanded_of_change_and (C := Tryz.checked) (X := fun w _ => laidMetH Tryz.prog Rows.fnExactRecordPutRow.laid w) (fun _ _ _ hh h => h.of_heap hh) own started (by kernel_rfl) Tryz.func5
    (ChangeSpec.witness_shaped (enc := enc) (C := Tryz.checked) (os := os) (X := fun w _ => laidMetH Tryz.prog Rows.fnExactRecordPutRow.laid w) false (World.doorLaid Tryz.prog 79 os) #[.agg #[.int .i64 0, .int .i64 0, .int .i64 0, .string ByteArray.empty, .bool false, .int .i64 0, .int .i64 0, .string ByteArray.empty, .int .i64 0]] 8 rfl (World.shaped_of_RefB (by kernel_rfl) (by kernel_rfl)) (by kernel_rfl) (by kernel_rfl) (by kernel_rfl) (door_met os _)) ?_
  intro W base args ds gs before hval0 hW _ _ hL _
  have hval : ∀ (j : Nat) t v, Tryz.f5.params[j]? = some t → args[j]? = some v → Value.okWide Tryz.prog W .any base t v := hval0
  have hW' := hW
  obtain ⟨p, q, hA0, hV, rfl, hfz, hnd⟩ := hW
  have hA : DataW.TrodAll enc Tryz.prog W 0 (fun _ => true) true Tryz.f5.params.toList args.toList ds p := hA0
  rw [Tryz.params5] at hA hval
  obtain ⟨v0, vs0, d0, ds0, p0, q0, hargs, rfl, rfl, h0, r0⟩ := trodAll_cons hA
  obtain ⟨rfl, rfl, rfl⟩ := trodAll_nil r0
  obtain rfl : args = #[v0] := by cases args; simp_all
  obtain ⟨rfl, rfl⟩ := trodVars_none hV
  have k0 := h0
  have lt0 : ∀ x ∈ p0, x.block < W.heap.size := by obtain ⟨m, hm⟩ := k0; exact DataW.trod_lt m _ _ _ hm
  have w0 : ∃ (k r p : Int) (nm : ByteArray) (o : Bool) (vk vn : Int) (vt : ByteArray) (m : Int), v0 = actV k r p nm o vk vn vt m ∧ nm.size ≤ maxLen ∧ vt.size ≤ maxLen := by
    obtain ⟨fuel, hf⟩ := h0
    obtain ⟨k, r, p, nm, o, vk, vn, vt, m, hcs, h1, h2⟩ := open_act fuel _ _ hf
    refine ⟨k, r, p, nm, o, vk, vn, vt, m, ?_, h1, h2⟩
    cases v0 with
    | agg cs =>
      have : cs.toList = _ := hcs
      rw [actV, ← this]
    | _ => simp [Value.cells] at hcs
  obtain ⟨k, r, p, nm, o, vk, vn, vt, m, rfl, z1, z2⟩ := w0
  clear hA0 hval0
  refine (lawRecordPut_any k r p nm o vk vn vt m z1 z2 W (tab_of_laid hL)).mono fun e W' ⟨he, hg⟩ => ?_
  subst he
  exact ⟨_, rfl, _, _, _, [], _, [], hW', trodAll_mk1 (shut_bool Tryz.underlying4 _), (trodAll_cons_mk (Below.trod laidOut (by kernel_rfl) (of_decide_eq_true (by kernel_rfl)) k0 hg lt0) trodAll_mk0), rfl, hg.frame _, fun h => by cases h⟩

/-- who is alone at the return leaves nobody but such as leave -/
theorem leaving_of {a : Assume} {C : Checked} {os : Os} {f : FuncId} {r : Reach} {Pre : World → Array Value → Prop} {Post : World → Array Value → Value → World → Prop} (h : ReturnsInHanded a C os f r Pre Post) : ReturnsInLeavingWide a C os f r Pre Post := fun he => by
  obtain ⟨h1, h2, h3, h4, h5⟩ := h he
  refine ⟨h1, h2, h3, h4, fun w tape i hf => ?_⟩
  obtain ⟨n, v, w', a1, a2, a3, a4, ⟨j, last, b1, b2, b3⟩, a5⟩ := h5 w tape i hf
  exact ⟨n, v, w', a1, a2, a3, a4, ⟨j, last, b1, b2, ⟨b3.2.1, onlyLeaving_of_quiet b3.1, b3.2.2⟩⟩, a5⟩

theorem over : Rows.FnExactRecordPutSaid :=
  OpenClaim.holds_of_wide_leaving 5 Tryz.f5 rfl rfl rfl rfl rfl rfl rfl ⟨rfl, rfl, rfl, rfl, rfl⟩ rfl rfl rfl rfl rfl (by kernel_rfl) Tryz.func5 (by kernel_rfl)
    (of_decide_eq_true (by kernel_rfl)) (by unfold Func.isWrapper; first | (rw [if_pos (by decide +kernel)]; kernel_rfl) | (rw [if_neg (by decide +kernel)]; exact ⟨rfl, rfl⟩))
    (fun os started H enc _ => leaving_of (lifted os started H enc))

theorem looks_ok (f : FuncId) (fn : Func) (hf : Tryz.prog.funcNamed "loop.example/backstitch/laws.FnExactRecordPut" = some f) (hfn : Tryz.prog.funcs[f]? = some fn) : true = Tryz.prog.looks [] ∧ ∀ (j : Nat) t, fn.params[j]? = some t → Tryz.prog.wantsStandIn t = false := by
  obtain rfl : f = 5 := Option.some.inj ((show Tryz.prog.funcNamed "loop.example/backstitch/laws.FnExactRecordPut" = some 5 by kernel_rfl).symm.trans hf) |>.symm
  obtain rfl : fn = Tryz.f5 := (Option.some.inj (Tryz.func5.symm.trans hfn)).symm
  exact ⟨by kernel_rfl, fun j t ht => by
    rw [Tryz.params5] at ht
    have hm : t ∈ [25] := by simpa using Array.mem_of_getElem? ht
    have hall : ([25].all fun u => !Tryz.prog.wantsStandIn u) = true := by kernel_rfl
    exact (show Tryz.prog.wantsStandIn t = false by simpa using List.all_eq_true.1 hall t hm)⟩

theorem carded : Rows.FnExactRecordPutCardSaid := by
  have h6 : Claim7.isSixth { stood := { row := Rows.fnExactRecordPutRow, standIns := [], harness := (true, "83d5055a024622a7688e9c4c1b201e054f342568f58c145f3cf5c727780c2321"), looks := true }, kinds := [] } = false := by kernel_rfl
  have h1 := Claim7.tied_new_at .later [.data, .data, .data, .handle] true (Claim7.new_of_sixth over (true, "83d5055a024622a7688e9c4c1b201e054f342568f58c145f3cf5c727780c2321") true rfl ⟨rfl, rfl⟩ (by kernel_rfl) h6 looks_ok) (by kernel_rfl)
  exact ⟨h1, (fun D hD => by cases hD), fnExactRecordPut_row_tie, (fun h => by cases h), (by kernel_rfl)⟩
end Go.Proofs.YtkkiolljbklccaaGreatDoor.fnExactRecordPut
namespace Go.Proofs.YtkkiolljbklccaaGreatDoor
theorem fnExactRecordPut_holds : Rows.FnExactRecordPutCardSaid := fnExactRecordPut.carded
end Go.Proofs.YtkkiolljbklccaaGreatDoor
