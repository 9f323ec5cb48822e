/- How large a value is, as the laws count, and a value copied. -/
import Derived.Test.YtbckbfjnifafaaaGreatDoorVal1
namespace Go.Proofs.YtbckbfjnifafaaaGreatDoor
open Go.RowKit
set_option linter.unusedVariables false

set_option maxHeartbeats 400000 in
theorem szValue_any (k n : Int) (t : ByteArray) (ht : t.size ≤ maxLen) (w : World) :
    Calls Tryz.prog 36 #[vAgg k n t, .int .i64 1048576] w fun e w' => e = .returned (.int .i64 (if 1048576 < (t.size : Int) then -1 else 1048576 - t.size)) ∧ Below w.heap.size w w' := by
  unfold maxLen at ht
  by_cases h : 1048576 < (t.size : Int)
  · rw [if_pos h]
    go_enter Tryz.func36, Tryz.ntmps36
    go_wp2
    go_ret
    exact ⟨rfl, (Below.refl _ _).alloc (Nat.le_refl _) _⟩
  · rw [if_neg h]
    go_enter Tryz.func36, Tryz.ntmps36
    go_wp2
    go_ret
    exact ⟨rfl, (Below.refl _ _).alloc (Nat.le_refl _) _⟩

set_option maxHeartbeats 400000 in
theorem toValue_any (k n : Int) (t : ByteArray) (w : World) :
    Calls Tryz.prog 41 #[vAgg k n t] w fun e w' => e = .returned (vAgg k n t) ∧ Below w.heap.size w w' := by
  go_enter Tryz.func41, Tryz.ntmps41
  go_wp2
  refine bodyPost_ret (v := vAgg k n t) (by simp [results, Tryz.results41, go_sem]) rfl ⟨rfl, ?_⟩
  exact (((Below.refl _ _).alloc (Nat.le_refl _) _).alloc (by simp) _).alloc (by simp; omega) _

set_option maxHeartbeats 400000 in
theorem szValue_at (k n : Int) (t : ByteArray) (ht : t.size ≤ maxLen) (left : Int) (h0 : 0 ≤ left) (h1 : left ≤ 1048576) (w : World) :
    Calls Tryz.prog 36 #[vAgg k n t, .int .i64 left] w fun e w' => e = .returned (.int .i64 (if left - t.size < 0 then -1 else left - t.size)) ∧ Below w.heap.size w w' := by
  unfold maxLen at ht
  by_cases h : left - t.size < 0
  · rw [if_pos h]
    go_enter Tryz.func36, Tryz.ntmps36
    go_wp2
    go_ret
    exact ⟨rfl, (Below.refl _ _).alloc (Nat.le_refl _) _⟩
  · rw [if_neg h]
    go_enter Tryz.func36, Tryz.ntmps36
    go_wp2
    go_ret
    exact ⟨rfl, (Below.refl _ _).alloc (Nat.le_refl _) _⟩

end Go.Proofs.YtbckbfjnifafaaaGreatDoor
