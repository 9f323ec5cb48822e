/- An act, whether it is ok, as the program has it. -/
import Derived.Test.YtkkiolljbklccaaGreatDoorAct3k1
import Derived.Test.YtkkiolljbklccaaGreatDoorAct3k2
import Derived.Test.YtkkiolljbklccaaGreatDoorAct3k3
import Derived.Test.YtkkiolljbklccaaGreatDoorAct3k4
import Derived.Test.YtkkiolljbklccaaGreatDoorAct3k5
import Derived.Deep.RegionWith
import Derived.Deep.QuietTactic
import Derived.BigQuiet
namespace Go.Proofs.YtkkiolljbklccaaGreatDoor
open Go.RowKit
set_option linter.unusedVariables false
set_option linter.unusedSimpArgs false
set_option maxRecDepth 100000 in
set_option maxHeartbeats 3200000 in
theorem implAct_no (k r p : Int) (nm : ByteArray) (o : Bool) (vk vn : Int) (vt : ByteArray) (m : Int) (hk : ¬ (1 ≤ k ∧ k ≤ 5)) (w : World) :
    Calls Tryz.prog 22 #[actV k r p nm o vk vn vt m] w fun e w' => e = .returned (.bool false) ∧ Below w.heap.size w w' := by
  by_cases h1 : 1 ≤ k
  · have h2 : ¬ k ≤ 5 := fun h => hk ⟨h1, h⟩
    have d1 : decide (k ≥ 1) = true := decide_eq_true h1
    have d2 : decide (k ≤ 5) = false := decide_eq_false h2
    clear hk
    go_enter Tryz.func22, Tryz.ntmps22
    go_wp2_with fail
    go_quiet (fail)
    go_wp2
    go_ret
    exact ⟨rfl, below_drewN ((Below.refl _ _).alloc (Nat.le_refl _) _) _⟩
  · have d1 : decide (k ≥ 1) = false := decide_eq_false h1
    clear hk
    go_enter Tryz.func22, Tryz.ntmps22
    go_wp2_with fail
    go_quiet (fail)
    go_wp2
    go_ret
    exact ⟨rfl, below_drewN ((Below.refl _ _).alloc (Nat.le_refl _) _) _⟩
theorem implActOk_any (k r p : Int) (nm : ByteArray) (o : Bool) (vk vn : Int) (vt : ByteArray) (m : Int) (hn : nm.size ≤ maxLen) (ht : vt.size ≤ maxLen) (w : World) :
    Calls Tryz.prog 22 #[actV k r p nm o vk vn vt m] w fun e w' => e = .returned (.bool (Pl.actB k r p nm o vk vn vt m)) ∧ Below w.heap.size w w' := by
  by_cases hk : 1 ≤ k ∧ k ≤ 5
  · have : k = 1 ∨ k = 2 ∨ k = 3 ∨ k = 4 ∨ k = 5 := by omega
    rcases this with rfl | rfl | rfl | rfl | rfl
    · exact implAct_1 r p nm o vk vn vt m hn ht w
    · exact implAct_2 r p nm o vk vn vt m hn ht w
    · exact implAct_3 r p nm o vk vn vt m hn ht w
    · exact implAct_4 r p nm o vk vn vt m hn ht w
    · exact implAct_5 r p nm o vk vn vt m hn ht w
  · have : Pl.actB k r p nm o vk vn vt m = false := by
      unfold Pl.actB
      rw [if_neg (by omega), if_neg (by omega), if_neg (by omega), if_neg (by omega), if_neg (by omega)]
    rw [this]
    exact implAct_no k r p nm o vk vn vt m hk w
end Go.Proofs.YtkkiolljbklccaaGreatDoor
