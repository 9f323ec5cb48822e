/- An act, whether it is ok, as the program has it: at every kind. -/
import Derived.Test.YtgljfejbjdmldaaGreatDoorAct2
import Derived.Test.YtgljfejbjdmldaaGreatDoorAct3a
import Derived.Deep.RegionWith
import Derived.Deep.QuietTactic
import Derived.BigQuiet
namespace Go.Proofs.YtgljfejbjdmldaaGreatDoor
open Go.RowKit
set_option linter.unusedVariables false
set_option linter.unusedSimpArgs false
theorem undr {n : Nat} {W w1 : World} (h : Below n W.drew w1) : Below n W w1 := ⟨h.os, h.tape, h.output, h.size, h.block⟩
theorem fld1 (W : World) : (Instr.field 41 (.agg #[.func (.func 17) #[] #[], .func (.func 18) #[] #[], .func (.func 19) #[] #[]]) 0).run Tryz.prog W = .ok (.func (.func 17) #[] #[]) W := by kernel_rfl
theorem idx1 (W : World) : (Instr.index 42 (.agg waysA) (.int .i64 1)).run Tryz.prog W = .ok (.agg #[.func (.func 17) #[] #[], .func (.func 18) #[] #[], .func (.func 19) #[] #[]]) W := by kernel_rfl
set_option maxRecDepth 100000 in
set_option maxHeartbeats 3200000 in
theorem implAct_1 (r p : Int) (nm : ByteArray) (o : Bool) (vk vn : Int) (vt : ByteArray) (m : Int) (hn : nm.size ≤ maxLen) (ht : vt.size ≤ maxLen) (w : World) :
    Calls Tryz.prog 7 #[actV 1 r p nm o vk vn vt m] w fun e w' => e = .returned (.bool (Pl.actB 1 r p nm o vk vn vt m)) ∧ Below w.heap.size w w' := by
  have hI := idx1
  have hF := fld1
  have hf := hide (startFits_any r p nm o vk vn vt m hn ht)
  have hw := hide actWays_any
  clear hn ht
  generalize Pl.actB 1 r p nm o vk vn vt m = rb at *
  go_enter Tryz.func7, Tryz.ntmps7
  go_wp2_with fail
  go_region_with (first
    | (go_at_call 13; refine (hw.out _).mono ?_; rintro e w1 ⟨rfl, hB1⟩; obtain ⟨z, c0, c1, c2, c3, c4, c5, c6, c7, c8⟩ := BoxNine.mk (undr hB1); have HB1 := hide (below_box1 (undr hB1)); clear hB1)
    | (go_at_call 17; refine (hf.out _).mono ?_; rintro e w2 ⟨rfl, hB2⟩; have HB2 := hide (HB1.out.trans (hB2.mono HB1.out.size)); clear hB2))
  all_goals
    go_wp2
    go_ret
    exact ⟨by cases rb <;> rfl, HB2.out⟩
theorem fld2 (W : World) : (Instr.field 41 (.agg #[.func (.func 20) #[] #[], .func (.func 21) #[] #[], .func (.func 22) #[] #[]]) 0).run Tryz.prog W = .ok (.func (.func 20) #[] #[]) W := by kernel_rfl
theorem idx2 (W : World) : (Instr.index 42 (.agg waysA) (.int .i64 2)).run Tryz.prog W = .ok (.agg #[.func (.func 20) #[] #[], .func (.func 21) #[] #[], .func (.func 22) #[] #[]]) W := by kernel_rfl
set_option maxRecDepth 100000 in
set_option maxHeartbeats 3200000 in
theorem implAct_2 (r p : Int) (nm : ByteArray) (o : Bool) (vk vn : Int) (vt : ByteArray) (m : Int) (hn : nm.size ≤ maxLen) (ht : vt.size ≤ maxLen) (w : World) :
    Calls Tryz.prog 7 #[actV 2 r p nm o vk vn vt m] w fun e w' => e = .returned (.bool (Pl.actB 2 r p nm o vk vn vt m)) ∧ Below w.heap.size w w' := by
  have hI := idx2
  have hF := fld2
  have hf := hide (signalFits_any r p nm o vk vn vt m hn ht)
  have hw := hide actWays_any
  clear hn ht
  generalize Pl.actB 2 r p nm o vk vn vt m = rb at *
  go_enter Tryz.func7, Tryz.ntmps7
  go_wp2_with fail
  go_region_with (first
    | (go_at_call 13; refine (hw.out _).mono ?_; rintro e w1 ⟨rfl, hB1⟩; obtain ⟨z, c0, c1, c2, c3, c4, c5, c6, c7, c8⟩ := BoxNine.mk (undr hB1); have HB1 := hide (below_box1 (undr hB1)); clear hB1)
    | (go_at_call 20; refine (hf.out _).mono ?_; rintro e w2 ⟨rfl, hB2⟩; have HB2 := hide (HB1.out.trans (hB2.mono HB1.out.size)); clear hB2))
  all_goals
    go_wp2
    go_ret
    exact ⟨by cases rb <;> rfl, HB2.out⟩
theorem fld3 (W : World) : (Instr.field 41 (.agg #[.func (.func 23) #[] #[], .func (.func 24) #[] #[], .func (.func 25) #[] #[]]) 0).run Tryz.prog W = .ok (.func (.func 23) #[] #[]) W := by kernel_rfl
theorem idx3 (W : World) : (Instr.index 42 (.agg waysA) (.int .i64 3)).run Tryz.prog W = .ok (.agg #[.func (.func 23) #[] #[], .func (.func 24) #[] #[], .func (.func 25) #[] #[]]) W := by kernel_rfl
set_option maxRecDepth 100000 in
set_option maxHeartbeats 3200000 in
theorem implAct_3 (r p : Int) (nm : ByteArray) (o : Bool) (vk vn : Int) (vt : ByteArray) (m : Int) (hn : nm.size ≤ maxLen) (ht : vt.size ≤ maxLen) (w : World) :
    Calls Tryz.prog 7 #[actV 3 r p nm o vk vn vt m] w fun e w' => e = .returned (.bool (Pl.actB 3 r p nm o vk vn vt m)) ∧ Below w.heap.size w w' := by
  have hI := idx3
  have hF := fld3
  have hf := hide (answerFits_any r p nm o vk vn vt m hn ht)
  have hw := hide actWays_any
  clear hn ht
  generalize Pl.actB 3 r p nm o vk vn vt m = rb at *
  go_enter Tryz.func7, Tryz.ntmps7
  go_wp2_with fail
  go_region_with (first
    | (go_at_call 13; refine (hw.out _).mono ?_; rintro e w1 ⟨rfl, hB1⟩; obtain ⟨z, c0, c1, c2, c3, c4, c5, c6, c7, c8⟩ := BoxNine.mk (undr hB1); have HB1 := hide (below_box1 (undr hB1)); clear hB1)
    | (go_at_call 23; refine (hf.out _).mono ?_; rintro e w2 ⟨rfl, hB2⟩; have HB2 := hide (HB1.out.trans (hB2.mono HB1.out.size)); clear hB2))
  all_goals
    go_wp2
    go_ret
    exact ⟨by cases rb <;> rfl, HB2.out⟩
theorem fld4 (W : World) : (Instr.field 41 (.agg #[.func (.func 26) #[] #[], .func (.func 27) #[] #[], .func (.func 28) #[] #[]]) 0).run Tryz.prog W = .ok (.func (.func 26) #[] #[]) W := by kernel_rfl
theorem idx4 (W : World) : (Instr.index 42 (.agg waysA) (.int .i64 4)).run Tryz.prog W = .ok (.agg #[.func (.func 26) #[] #[], .func (.func 27) #[] #[], .func (.func 28) #[] #[]]) W := by kernel_rfl
set_option maxRecDepth 100000 in
set_option maxHeartbeats 3200000 in
theorem implAct_4 (r p : Int) (nm : ByteArray) (o : Bool) (vk vn : Int) (vt : ByteArray) (m : Int) (hn : nm.size ≤ maxLen) (ht : vt.size ≤ maxLen) (w : World) :
    Calls Tryz.prog 7 #[actV 4 r p nm o vk vn vt m] w fun e w' => e = .returned (.bool (Pl.actB 4 r p nm o vk vn vt m)) ∧ Below w.heap.size w w' := by
  have hI := idx4
  have hF := fld4
  have hf := hide (cancelFits_any r p nm o vk vn vt m)
  have hw := hide actWays_any
  clear hn ht
  generalize Pl.actB 4 r p nm o vk vn vt m = rb at *
  go_enter Tryz.func7, Tryz.ntmps7
  go_wp2_with fail
  go_region_with (first
    | (go_at_call 13; refine (hw.out _).mono ?_; rintro e w1 ⟨rfl, hB1⟩; obtain ⟨z, c0, c1, c2, c3, c4, c5, c6, c7, c8⟩ := BoxNine.mk (undr hB1); have HB1 := hide (below_box1 (undr hB1)); clear hB1)
    | (go_at_call 26; refine (hf.out _).mono ?_; rintro e w2 ⟨rfl, hB2⟩; have HB2 := hide (HB1.out.trans (hB2.mono HB1.out.size)); clear hB2))
  all_goals
    go_wp2
    go_ret
    exact ⟨by cases rb <;> rfl, HB2.out⟩
theorem fld5 (W : World) : (Instr.field 41 (.agg #[.func (.func 29) #[] #[], .func (.func 30) #[] #[], .func (.func 31) #[] #[]]) 0).run Tryz.prog W = .ok (.func (.func 29) #[] #[]) W := by kernel_rfl
theorem idx5 (W : World) : (Instr.index 42 (.agg waysA) (.int .i64 5)).run Tryz.prog W = .ok (.agg #[.func (.func 29) #[] #[], .func (.func 30) #[] #[], .func (.func 31) #[] #[]]) W := by kernel_rfl
set_option maxRecDepth 100000 in
set_option maxHeartbeats 3200000 in
theorem implAct_5 (r p : Int) (nm : ByteArray) (o : Bool) (vk vn : Int) (vt : ByteArray) (m : Int) (hn : nm.size ≤ maxLen) (ht : vt.size ≤ maxLen) (w : World) :
    Calls Tryz.prog 7 #[actV 5 r p nm o vk vn vt m] w fun e w' => e = .returned (.bool (Pl.actB 5 r p nm o vk vn vt m)) ∧ Below w.heap.size w w' := by
  have hI := idx5
  have hF := fld5
  have hf := hide (tickFits_any r p nm o vk vn vt m)
  have hw := hide actWays_any
  clear hn ht
  generalize Pl.actB 5 r p nm o vk vn vt m = rb at *
  go_enter Tryz.func7, Tryz.ntmps7
  go_wp2_with fail
  go_region_with (first
    | (go_at_call 13; refine (hw.out _).mono ?_; rintro e w1 ⟨rfl, hB1⟩; obtain ⟨z, c0, c1, c2, c3, c4, c5, c6, c7, c8⟩ := BoxNine.mk (undr hB1); have HB1 := hide (below_box1 (undr hB1)); clear hB1)
    | (go_at_call 29; refine (hf.out _).mono ?_; rintro e w2 ⟨rfl, hB2⟩; have HB2 := hide (HB1.out.trans (hB2.mono HB1.out.size)); clear hB2))
  all_goals
    go_wp2
    go_ret
    exact ⟨by cases rb <;> rfl, HB2.out⟩
set_option maxRecDepth 100000 in
set_option maxHeartbeats 3200000 in
theorem implAct_no (k r p : Int) (nm : ByteArray) (o : Bool) (vk vn : Int) (vt : ByteArray) (m : Int) (hk : ¬ (1 ≤ k ∧ k ≤ 5)) (w : World) :
    Calls Tryz.prog 7 #[actV k r p nm o vk vn vt m] w fun e w' => e = .returned (.bool false) ∧ Below w.heap.size w w' := by
  by_cases h1 : 1 ≤ k
  · have h2 : ¬ k ≤ 5 := fun h => hk ⟨h1, h⟩
    have d1 : decide (k ≥ 1) = true := decide_eq_true h1
    have d2 : decide (k ≤ 5) = false := decide_eq_false h2
    clear hk
    go_enter Tryz.func7, Tryz.ntmps7
    go_wp2_with fail
    go_quiet (fail)
    go_wp2
    go_ret
    exact ⟨rfl, below_drewN ((Below.refl _ _).alloc (Nat.le_refl _) _) _⟩
  · have d1 : decide (k ≥ 1) = false := decide_eq_false h1
    clear hk
    go_enter Tryz.func7, Tryz.ntmps7
    go_wp2_with fail
    go_quiet (fail)
    go_wp2
    go_ret
    exact ⟨rfl, below_drewN ((Below.refl _ _).alloc (Nat.le_refl _) _) _⟩
theorem implActOk_any (k r p : Int) (nm : ByteArray) (o : Bool) (vk vn : Int) (vt : ByteArray) (m : Int) (hn : nm.size ≤ maxLen) (ht : vt.size ≤ maxLen) (w : World) :
    Calls Tryz.prog 7 #[actV k r p nm o vk vn vt m] w fun e w' => e = .returned (.bool (Pl.actB k r p nm o vk vn vt m)) ∧ Below w.heap.size w w' := by
  by_cases hk : 1 ≤ k ∧ k ≤ 5
  · have : k = 1 ∨ k = 2 ∨ k = 3 ∨ k = 4 ∨ k = 5 := by omega
    rcases this with rfl | rfl | rfl | rfl | rfl
    · exact implAct_1 r p nm o vk vn vt m hn ht w
    · exact implAct_2 r p nm o vk vn vt m hn ht w
    · exact implAct_3 r p nm o vk vn vt m hn ht w
    · exact implAct_4 r p nm o vk vn vt m hn ht w
    · exact implAct_5 r p nm o vk vn vt m hn ht w
  · have : Pl.actB k r p nm o vk vn vt m = false := by
      unfold Pl.actB
      rw [if_neg (by omega), if_neg (by omega), if_neg (by omega), if_neg (by omega), if_neg (by omega)]
    rw [this]
    exact implAct_no k r p nm o vk vn vt m hk w
end Go.Proofs.YtgljfejbjdmldaaGreatDoor
