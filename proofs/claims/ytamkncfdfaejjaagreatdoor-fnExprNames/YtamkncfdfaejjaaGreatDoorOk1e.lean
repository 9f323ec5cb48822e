/- Whether an expression is ok, as the specification has it: what is not, of the other kinds. -/
import Derived.Test.YtamkncfdfaejjaaGreatDoorOk1d
namespace Go.Proofs.YtamkncfdfaejjaaGreatDoor
open Go.RowKit
set_option linter.unusedVariables false

set_option maxHeartbeats 1600000 in
theorem l2Ok_oth_val (d : Nat) (hd : d ≤ 5) (nk vk vn : Int) (n1 : ¬ nk = 1) (n2 : ¬ nk = 2) (vt nm : ByteArray) (v : Value) (w : World) (hz : NotNone vk vn vt) :
    Calls Tryz.prog 50 #[ndV ⟨nk, vk, vn, vt, nm⟩ v, .int .i64 d] w fun e w' => e = .returned (.bool false) ∧ Below w.heap.size w w' := by
  have k1 : (nk == 1) = false := by simp [n1]
  have k2 : (nk == 2) = false := by simp [n2]
  have m1 : (nk != 1) = true := by simp [n1]
  have m2 : (nk != 2) = true := by simp [n2]
  clear n1 n2
  have hdd : ((d : Int) < 1) = False ∨ d = 0 := by
    by_cases h : d = 0
    · exact .inr h
    · exact .inl (by simp; omega)
  rcases hz with hz | ⟨rfl, hz⟩ | ⟨rfl, rfl, hz⟩ <;> rcases hdd with dl | rfl <;> cases hbn : nm.toList.isEmpty
  all_goals
    go_enter Tryz.func50, Tryz.ntmps50
    go_wp2_with fail
    go_quiet (fail)
    go_wp2
    go_ret
    exact ⟨rfl, below_drewN ((Below.refl _ _).alloc (Nat.le_refl _) _) _⟩

set_option maxHeartbeats 1600000 in
theorem l2Ok_oth_name (d : Nat) (hd : d ≤ 5) (nk : Int) (n1 : ¬ nk = 1) (n2 : ¬ nk = 2) (vt nm : ByteArray) (v : Value) (w : World) (hvt : vt.toList.isEmpty = true) (hok : ¬ (1 ≤ d ∧ nm.toList.isEmpty = true)) :
    Calls Tryz.prog 50 #[ndV ⟨nk, 0, 0, vt, nm⟩ v, .int .i64 d] w fun e w' => e = .returned (.bool false) ∧ Below w.heap.size w w' := by
  have k1 : (nk == 1) = false := by simp [n1]
  have k2 : (nk == 2) = false := by simp [n2]
  have m1 : (nk != 1) = true := by simp [n1]
  have m2 : (nk != 2) = true := by simp [n2]
  clear n1 n2
  have hdd : (((d : Int) < 1) = False ∧ nm.toList.isEmpty = false) ∨ d = 0 := by
    by_cases h : d = 0
    · exact .inr h
    · refine .inl ⟨by simp; omega, ?_⟩
      cases hb : nm.toList.isEmpty
      · rfl
      · exact absurd ⟨by omega, hb⟩ hok
  clear hok
  rcases hdd with ⟨dl, hbn⟩ | rfl
  · go_enter Tryz.func50, Tryz.ntmps50
    go_wp2_with fail
    go_quiet (fail)
    go_wp2
    go_ret
    exact ⟨rfl, below_drewN ((Below.refl _ _).alloc (Nat.le_refl _) _) _⟩
  · cases hbn : nm.toList.isEmpty
    all_goals
      go_enter Tryz.func50, Tryz.ntmps50
      go_wp2_with fail
      go_quiet (fail)
      go_wp2
      go_ret
      exact ⟨rfl, below_drewN ((Below.refl _ _).alloc (Nat.le_refl _) _) _⟩
end Go.Proofs.YtamkncfdfaejjaaGreatDoor
