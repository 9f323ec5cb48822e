/- Whether an expression is ok, as the specification has it: what is not. -/
import Derived.Test.YtamkncfdfaejjabGreatDoorOk1
namespace Go.Proofs.YtamkncfdfaejjabGreatDoor
open Go.RowKit
set_option linter.unusedVariables false

/-- a value that is not nothing, by its first field that is not -/
def NotNone (vk vn : Int) (vt : ByteArray) : Prop := (vk == 0) = false ∨ (vk = 0 ∧ (vn == 0) = false) ∨ (vk = 0 ∧ vn = 0 ∧ vt.toList.isEmpty = false)
theorem notNone_or (vk vn : Int) (vt : ByteArray) : NotNone vk vn vt ∨ (vk = 0 ∧ vn = 0 ∧ vt.toList.isEmpty = true) := by
  by_cases h1 : vk = 0
  · by_cases h2 : vn = 0
    · cases h3 : vt.toList.isEmpty
      · exact .inl (.inr (.inr ⟨h1, h2, h3⟩))
      · exact .inr ⟨h1, h2, rfl⟩
    · exact .inl (.inr (.inl ⟨h1, by simp [h2]⟩))
  · exact .inl (.inl (by simp [h1]))

set_option maxHeartbeats 1600000 in
theorem l2Ok_var_val (d : Nat) (hd : d ≤ 5) (vk vn : Int) (vt nm : ByteArray) (v : Value) (w : World) (hn : nm.size ≤ maxLen) (hz : NotNone vk vn vt) :
    Calls Tryz.prog 30 #[ndV ⟨2, vk, vn, vt, nm⟩ v, .int .i64 d] w fun e w' => e = .returned (.bool false) ∧ Below w.heap.size w w' := by
  have hv := hide (l1Name_any nm hn)
  generalize Pl.nameB nm = bn at hv
  have hdd : ((d : Int) < 1) = False ∨ d = 0 := by
    by_cases h : d = 0
    · exact .inr h
    · exact .inl (by simp; omega)
  rcases hz with hz | ⟨rfl, hz⟩ | ⟨rfl, rfl, hz⟩ <;> rcases hdd with dl | rfl <;> cases bn
  all_goals
    go_enter Tryz.func30, Tryz.ntmps30
    go_wp2_with fail
    refine (hv.out _).mono ?_
    rintro e w1 ⟨rfl, hB1⟩
    have HB : Hid (Below w.heap.size w w1) := ((Below.refl _ _).alloc (Nat.le_refl _) _).trans (hB1.mono (by simp))
    have c0 : w1.cell? ⟨w.heap.size, 0, none⟩ = some (.int .i64 2) := boxC hB1 (by simp) 0
    clear hB1 hv
    go_wp2_with fail
    go_quiet (fail)
    go_wp2
    go_ret
    exact ⟨rfl, below_drewN HB.out _⟩

set_option maxHeartbeats 1600000 in
theorem l2Ok_var_name (d : Nat) (hd : d ≤ 5) (vt nm : ByteArray) (v : Value) (w : World) (hn : nm.size ≤ maxLen) (hvt : vt.toList.isEmpty = true) (hok : ¬ (1 ≤ d ∧ Pl.nameB nm = true)) :
    Calls Tryz.prog 30 #[ndV ⟨2, 0, 0, vt, nm⟩ v, .int .i64 d] w fun e w' => e = .returned (.bool false) ∧ Below w.heap.size w w' := by
  have hv := hide (l1Name_any nm hn)
  have hdd : (((d : Int) < 1) = False ∧ Pl.nameB nm = false) ∨ d = 0 := by
    by_cases h : d = 0
    · exact .inr h
    · refine .inl ⟨by simp; omega, ?_⟩
      cases hb : Pl.nameB nm
      · rfl
      · exact absurd ⟨by omega, hb⟩ hok
  clear hok
  generalize Pl.nameB nm = bn at hv hdd
  rcases hdd with ⟨dl, rfl⟩ | rfl <;> try cases bn
  all_goals
    go_enter Tryz.func30, Tryz.ntmps30
    go_wp2_with fail
    refine (hv.out _).mono ?_
    rintro e w1 ⟨rfl, hB1⟩
    have HB : Hid (Below w.heap.size w w1) := ((Below.refl _ _).alloc (Nat.le_refl _) _).trans (hB1.mono (by simp))
    have c0 : w1.cell? ⟨w.heap.size, 0, none⟩ = some (.int .i64 2) := boxC hB1 (by simp) 0
    clear hB1 hv
    go_wp2_with fail
    go_quiet (fail)
    go_wp2
    go_ret
    exact ⟨rfl, below_drewN HB.out _⟩
end Go.Proofs.YtamkncfdfaejjabGreatDoor
