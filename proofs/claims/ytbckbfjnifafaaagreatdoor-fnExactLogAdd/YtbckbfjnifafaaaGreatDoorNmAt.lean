/- Names by a Boolean that is told; what lies in a box of five. -/
import Derived.Test.YtbckbfjnifafaaaGreatDoorVal5
import Derived.Test.YtbckbfjnifafaaaGreatDoorName2
import Derived.Test.YtbckbfjnifafaaaGreatDoorSzV
import Derived.Test.YtbckbfjnifafaaaGreatDoorBx
namespace Go.Proofs.YtbckbfjnifafaaaGreatDoor
open Go.RowKit
set_option linter.unusedVariables false
set_option linter.unusedSimpArgs false
theorem implName_at (s : ByteArray) (hs : s.size ≤ maxLen) {b : Bool} (h : Pl.nameB s = b) (w : World) :
    Calls Tryz.prog 106 #[.string s] w fun e w' => e = .returned (.bool b) ∧ w' = w := by
  have := implNameOk_any s hs w
  rw [h] at this
  exact this
theorem l1Name_at (s : ByteArray) (hs : s.size ≤ maxLen) {b : Bool} (h : Pl.nameB s = b) (w : World) :
    Calls Tryz.prog 53 #[.string s] w fun e w' => e = .returned (.bool b) ∧ Below w.heap.size w w' := by
  have := l1Name_any s hs w
  rw [h] at this
  exact this

theorem box5 {B : Nat} {w w1 : World} {x0 x1 x2 x3 x4 : Value} {T : TypeId} (hb : Below B (w.alloc (.cells #[x0, x1, x2, x3, x4] T)) w1) (h : w.heap.size < B) :
    w1.cell? ⟨w.heap.size, 0, none⟩ = some x0 ∧ w1.cell? ⟨w.heap.size, 1, none⟩ = some x1 ∧ w1.cell? ⟨w.heap.size, 2, none⟩ = some x2 ∧ w1.cell? ⟨w.heap.size, 3, none⟩ = some x3 ∧ w1.cell? ⟨w.heap.size, 4, none⟩ = some x4 := by
  refine ⟨?_, ?_, ?_, ?_, ?_⟩
  · rw [hb.cell (p := ⟨w.heap.size, 0, none⟩) h]; simp
  · rw [hb.cell (p := ⟨w.heap.size, 1, none⟩) h]; simp
  · rw [hb.cell (p := ⟨w.heap.size, 2, none⟩) h]; simp
  · rw [hb.cell (p := ⟨w.heap.size, 3, none⟩) h]; simp
  · rw [hb.cell (p := ⟨w.heap.size, 4, none⟩) h]; simp
theorem below_box1 {w w1 : World} {o : Obj} (hB : Below (w.alloc o).heap.size (w.alloc o) w1) : Below w.heap.size w w1 := ((Below.refl _ _).alloc (Nat.le_refl _) _).trans (hB.mono (by simp))

end Go.Proofs.YtbckbfjnifafaaaGreatDoor
