/- An act, whether it is ok, as the program has it: at every kind. -/
import Derived.Test.YtbckbfjnifafaaaGreatDoorAct2
import Derived.Test.YtbckbfjnifafaaaGreatDoorAct3a
import Derived.Deep.RegionWith
import Derived.Deep.QuietTactic
import Derived.BigQuiet
namespace Go.Proofs.YtbckbfjnifafaaaGreatDoor
open Go.RowKit
set_option linter.unusedVariables false
set_option linter.unusedSimpArgs false
theorem undr4 {n : Nat} {W w1 : World} (h : Below n W.drew w1) : Below n W w1 := ⟨h.os, h.tape, h.output, h.size, h.block⟩
theorem fld4 (W : World) : (Instr.field 90 (.agg #[.func (.func 89) #[] #[], .func (.func 90) #[] #[], .func (.func 91) #[] #[]]) 0).run Tryz.prog W = .ok (.func (.func 89) #[] #[]) W := by kernel_rfl
theorem idx4 (W : World) : (Instr.index 91 (.agg waysA) (.int .i64 4)).run Tryz.prog W = .ok (.agg #[.func (.func 89) #[] #[], .func (.func 90) #[] #[], .func (.func 91) #[] #[]]) W := by kernel_rfl
set_option maxRecDepth 100000 in
set_option maxHeartbeats 3200000 in
theorem implAct_4 (r p : Int) (nm : ByteArray) (o : Bool) (vk vn : Int) (vt : ByteArray) (m : Int) (hn : nm.size ≤ maxLen) (ht : vt.size ≤ maxLen) (w : World) :
    Calls Tryz.prog 58 #[actV 4 r p nm o vk vn vt m] w fun e w' => e = .returned (.bool (Pl.actB 4 r p nm o vk vn vt m)) ∧ Below w.heap.size w w' := by
  have hI := idx4
  have hF := fld4
  have hf := hide (cancelFits_any r p nm o vk vn vt m)
  have hw := hide actWays_any
  clear hn ht
  generalize Pl.actB 4 r p nm o vk vn vt m = rb at *
  go_enter Tryz.func58, Tryz.ntmps58
  go_wp2_with fail
  go_region_with (first
    | (go_at_call 70; refine (hw.out _).mono ?_; rintro e w1 ⟨rfl, hB1⟩; obtain ⟨z, c0, c1, c2, c3, c4, c5, c6, c7, c8⟩ := BoxNine.mk (undr4 hB1); have HB1 := hide (below_box1 (undr4 hB1)); clear hB1)
    | (go_at_call 89; refine (hf.out _).mono ?_; rintro e w2 ⟨rfl, hB2⟩; have HB2 := hide (HB1.out.trans (hB2.mono HB1.out.size)); clear hB2))
  all_goals
    go_wp2
    go_ret
    exact ⟨by cases rb <;> rfl, HB2.out⟩
end Go.Proofs.YtbckbfjnifafaaaGreatDoor
