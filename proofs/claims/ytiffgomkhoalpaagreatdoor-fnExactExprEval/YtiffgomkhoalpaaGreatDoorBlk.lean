/- Blocks: boxes, cells, stores. -/
import Derived.Test.YtiffgomkhoalpaaGreatDoorTree
import Derived.Test.YtiffgomkhoalpaaGreatDoorBx
namespace Go.Proofs.YtiffgomkhoalpaaGreatDoor
open Go.RowKit
set_option linter.unusedVariables false

theorem over_refl (lo : Nat) (w : World) : Over lo w w := ⟨Nat.le_refl _, fun _ _ _ _ => rfl⟩
theorem over_set {lo : Nat} {w w1 : World} (h : Over lo w w1) {p : Addr} (hp : p.block < lo) (u : Value) : Over lo w (w1.setCell p u) := by
  refine ⟨by simp [World.setCell]; exact h.1, fun g o hl hg => ?_⟩
  have h1 : (w1.setCell p u).heap[g]? = w1.heap[g]? := Below.heap_setCell _ _ _ _ (by omega)
  have h2 := h.2 g o hl hg
  simp only [World.cell?] at h2 ⊢
  rw [h1]; exact h2
end Go.Proofs.YtiffgomkhoalpaaGreatDoor
