/- Two copies of names with values held against each other. -/
import Derived.Test.YtiffgomkhoalpaaGreatDoorEqX
import Derived.Test.YtiffgomkhoalpaaGreatDoorEvL2
import Derived.Deep.RegionHeld3
import Derived.Deep.RegionLaw
namespace Go.Proofs.YtiffgomkhoalpaaGreatDoor
open Go.RowKit
set_option linter.unusedVariables false
set_option linter.unusedSimpArgs false
theorem two_below' (w : World) (A B : Obj) : Below w.heap.size w ((w.alloc A).alloc B) := ((Below.refl _ _).alloc (Nat.le_refl _) A).alloc (by simp) B
set_option maxHeartbeats 800000 in
theorem eqPair_any (p : Pl.Pr) (w : World) :
    Calls Tryz.prog 37 #[prV p, prV p] w fun e w' => e = .returned (.bool true) ∧ Below w.heap.size w w' := by
  obtain ⟨nm, vk, vn, vt⟩ := p
  have hv := hide (eqValue_any vk vn vt)
  go_enter Tryz.func37, Tryz.ntmps37
  go_wp2_with fail
  refine (hv.out _).mono ?_
  rintro e w1 ⟨rfl, hB1⟩
  have HB := hide ((two_below' w _ _).trans (hB1.mono (two_below' w _ _).size))
  clear hB1 hv
  go_wp2
  go_ret
  exact ⟨rfl, HB.out⟩
end Go.Proofs.YtiffgomkhoalpaaGreatDoor
