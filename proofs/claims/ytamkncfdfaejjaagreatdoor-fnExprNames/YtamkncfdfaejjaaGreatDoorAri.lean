/- How many parts a kind has. -/
import Derived.Test.YtamkncfdfaejjaaGreatDoorTree
namespace Go.Proofs.YtamkncfdfaejjaaGreatDoor
open Go.RowKit
set_option linter.unusedVariables false
namespace Pl
def arity (k : Int) : Int := if k = 1 then 0 else if k = 2 then 0 else if k = 10 then 1 else if 3 ≤ k ∧ k ≤ 9 then 2 else -1
theorem arity_lt (k : Int) : arity k < 3 := by unfold arity; repeat' split <;> try omega
end Pl

set_option maxHeartbeats 400000 in
theorem l2Arity_any (k : Int) (w : World) :
    Calls Tryz.prog 70 #[.int .i64 k] w fun e w' => e = .returned (.int .i64 (Pl.arity k)) ∧ w' = w := by
  by_cases k1 : k = 1
  · subst k1
    go_enter Tryz.func70, Tryz.ntmps70
    go_wp2
    go_ret
    exact ⟨rfl, rfl⟩
  by_cases k2 : k = 2
  · subst k2
    go_enter Tryz.func70, Tryz.ntmps70
    go_wp2
    go_ret
    exact ⟨rfl, rfl⟩
  by_cases k10 : k = 10
  · subst k10
    go_enter Tryz.func70, Tryz.ntmps70
    go_wp2
    go_ret
    exact ⟨rfl, rfl⟩
  have b1 : (k == 1) = false := by simp [k1]
  have b2 : (k == 2) = false := by simp [k2]
  have b10 : (k == 10) = false := by simp [k10]
  have hin := hide (in_any k 3 9)
  by_cases h : 3 ≤ k ∧ k ≤ 9
  · have hf : Hid (Pl.arity k = 2) := by show _ = _; simp [Pl.arity, k1, k2, k10, h]
    rw [decide_eq_true h.1, decide_eq_true h.2] at hin
    clear k1 k2 k10 h
    go_enter Tryz.func70, Tryz.ntmps70
    go_wp2_with (go_at_call 72; refine (hin.out _).mono ?_; rintro e w' ⟨rfl, rfl⟩)
    go_ret
    exact ⟨by rw [hf.out]; rfl, rfl⟩
  · have hf : Hid (Pl.arity k = -1) := by show _ = _; simp only [Pl.arity, k1, k2, k10, h, if_false]
    have hd : (decide (3 ≤ k) && decide (k ≤ 9)) = false := by
      cases h1 : decide (3 ≤ k) <;> cases h2 : decide (k ≤ 9) <;> first | rfl | exact absurd ⟨of_decide_eq_true h1, of_decide_eq_true h2⟩ h
    rw [hd] at hin
    clear k1 k2 k10 h hd
    go_enter Tryz.func70, Tryz.ntmps70
    go_wp2_with (go_at_call 72; refine (hin.out _).mono ?_; rintro e w' ⟨rfl, rfl⟩)
    go_ret
    exact ⟨by rw [hf.out]; rfl, rfl⟩

set_option maxHeartbeats 400000 in
theorem exprSign_none (k : Int) (h : ¬ (3 ≤ k ∧ k ≤ 9)) (w : World) :
    Calls Tryz.prog 100 #[.int .i64 k] w fun e w' => e = .returned (.string ⟨#[]⟩) ∧ w' = w := by
  have b3 : (k == 3) = false := beq_eq_false_iff_ne.2 (by omega)
  have b4 : (k == 4) = false := beq_eq_false_iff_ne.2 (by omega)
  have b5 : (k == 5) = false := beq_eq_false_iff_ne.2 (by omega)
  have b6 : (k == 6) = false := beq_eq_false_iff_ne.2 (by omega)
  have b7 : (k == 7) = false := beq_eq_false_iff_ne.2 (by omega)
  have b8 : (k == 8) = false := beq_eq_false_iff_ne.2 (by omega)
  have b9 : (k == 9) = false := beq_eq_false_iff_ne.2 (by omega)
  clear h
  go_enter Tryz.func100, Tryz.ntmps100
  go_wp2
  go_ret
  exact ⟨rfl, rfl⟩

set_option maxHeartbeats 400000 in
theorem exprSign_some (k : Int) (h : 3 ≤ k ∧ k ≤ 9) (w : World) :
    Calls Tryz.prog 100 #[.int .i64 k] w fun e w' => ∃ s : ByteArray, e = .returned (.string s) ∧ s.toList.isEmpty = false ∧ w' = w := by
  have : k = 3 ∨ k = 4 ∨ k = 5 ∨ k = 6 ∨ k = 7 ∨ k = 8 ∨ k = 9 := by omega
  rcases this with rfl | rfl | rfl | rfl | rfl | rfl | rfl
  all_goals
    clear h
    go_enter Tryz.func100, Tryz.ntmps100
    go_wp2
    go_ret
    exact ⟨_, rfl, by rw [ByteArray.toList_eq]; rfl, rfl⟩

set_option maxHeartbeats 400000 in
theorem exprParts_any (k : Int) (w : World) :
    Calls Tryz.prog 69 #[.int .i64 k] w fun e w' => e = .returned (.int .i64 (Pl.arity k)) ∧ w' = w := by
  by_cases k1 : k = 1
  · subst k1
    go_enter Tryz.func69, Tryz.ntmps69
    go_wp2
    go_ret
    exact ⟨rfl, rfl⟩
  by_cases k2 : k = 2
  · subst k2
    go_enter Tryz.func69, Tryz.ntmps69
    go_wp2
    go_ret
    exact ⟨rfl, rfl⟩
  by_cases k10 : k = 10
  · subst k10
    go_enter Tryz.func69, Tryz.ntmps69
    go_wp2
    go_ret
    exact ⟨rfl, rfl⟩
  have b1 : (k == 1) = false := by simp [k1]
  have b2 : (k == 2) = false := by simp [k2]
  have b10 : (k == 10) = false := by simp [k10]
  by_cases h : 3 ≤ k ∧ k ≤ 9
  · have hf : Hid (Pl.arity k = 2) := by show _ = _; simp [Pl.arity, k1, k2, k10, h]
    have hin := hide (exprSign_some k h)
    clear k1 k2 k10 h
    go_enter Tryz.func69, Tryz.ntmps69
    go_wp2_with (go_at_call 100; refine (hin.out _).mono ?_; rintro e w' ⟨s, rfl, hs, rfl⟩)
    go_ret
    exact ⟨by rw [hf.out]; rfl, rfl⟩
  · have hf : Hid (Pl.arity k = -1) := by show _ = _; simp only [Pl.arity, k1, k2, k10, h, if_false]
    have hin := hide (exprSign_none k h)
    clear k1 k2 k10 h
    go_enter Tryz.func69, Tryz.ntmps69
    go_wp2_with (go_at_call 100; refine (hin.out _).mono ?_; rintro e w' ⟨rfl, rfl⟩)
    go_ret
    exact ⟨by rw [hf.out]; rfl, rfl⟩
end Go.Proofs.YtamkncfdfaejjaaGreatDoor
