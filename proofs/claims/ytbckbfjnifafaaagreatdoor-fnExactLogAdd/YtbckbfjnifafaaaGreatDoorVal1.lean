/- Whether a value is ok, as the model has it. -/
import Derived.Test.YtbckbfjnifafaaaGreatDoorLeafB
namespace Go.Proofs.YtbckbfjnifafaaaGreatDoor
open Go.RowKit
set_option linter.unusedVariables false

abbrev vAgg (k n : Int) (t : ByteArray) : Value := .agg #[.int .i64 k, .int .i64 n, .string t]

set_option maxHeartbeats 800000 in
theorem l1Text_any (s : ByteArray) (hs : s.size ≤ maxLen) (w : World) :
    Calls Tryz.prog 68 #[.string s] w fun e w' => e = .returned (.bool (Pl.textB s)) ∧ w' = w := by
  unfold maxLen at hs
  go_enter Tryz.func68, Tryz.ntmps68
  go_wp2
  go_loop [3] (fun i => ∃ k : Nat, k ≤ s.size ∧ i = .int .i64 k ∧ ∀ j, j < k → Pl.seenB (Pl.byteAt s j) = true) (fun i => s.size - (intOf i).toNat)
  case atStart => exact ⟨0, by omega, rfl, by intro j hj; omega⟩
  case round =>
    obtain ⟨k, hk, rfl, hno⟩ := hrel
    have HN : Hid (∀ j, j < k → Pl.seenB (Pl.byteAt s j) = true) := hno
    clear hno
    by_cases hlt : k < s.size
    · have hby := Pl.byteAt_eq s k hlt
      generalize hc : Pl.byteAt s k = c at hby
      have HC := hide hc
      clear hc
      by_cases h1 : 32 ≤ c
      · by_cases h2 : c ≤ 126
        · cases h3 : (c == 34)
          · go_wp2
            refine ⟨⟨k + 1, by omega, by go_num, ?_⟩, by simp [intOf]; omega⟩
            exact Pl.next_seen HN.out (by rw [HC.out]; simp only [Pl.seenB, h1, h2, h3]; rfl)
          · go_wp2
            go_ret
            have hf : Pl.textB s = false := Pl.text_not k hlt (by rw [HC.out]; simp only [Pl.seenB, h1, h2, h3]; rfl)
            exact ⟨by rw [hf]; rfl, rfl⟩
        · have hf : Hid (Pl.textB s = false) := Pl.text_not k hlt (by rw [HC.out]; simp [Pl.seenB, h1, h2])
          go_wp2
          go_ret
          exact ⟨by rw [hf.out]; rfl, rfl⟩
      · have hf : Hid (Pl.textB s = false) := Pl.text_not k hlt (by rw [HC.out]; simp [Pl.seenB, h1])
        go_wp2
        go_ret
        exact ⟨by rw [hf.out]; rfl, rfl⟩
    · have hall := hide (Pl.text_all (s := s) fun j hj => HN.out j (by omega))
      go_wp2
      go_ret
      refine ⟨?_, rfl⟩
      have hf : Pl.textB s = decide ((s.size : Int) ≤ 24) := by
        unfold Pl.textB; rw [hall.out, Bool.true_and]; exact decide_eq_decide.2 (by omega)
      rw [hf]; rfl

set_option maxHeartbeats 800000 in
theorem specValueOk_any (k n : Int) (t : ByteArray) (ht : t.size ≤ maxLen) (w : World) :
    Calls Tryz.prog 54 #[vAgg k n t] w fun e w' => e = .returned (.bool (Pl.okB k n t)) ∧ Below w.heap.size w w' := by
  by_cases k0 : k = 0
  · subst k0
    cases hn : (n == 0)
    all_goals
      go_enter Tryz.func54, Tryz.ntmps54
      go_wp2
      go_ret
      exact ⟨by simp [Pl.okB, hn], (Below.refl _ _).alloc (Nat.le_refl _) _⟩
  · have k0' : (k == 0) = false := by simp [k0]
    by_cases k1 : k = 1
    · subst k1
      by_cases h1 : -1000000000 ≤ n ∧ n ≤ 1000000000
      · have hf : Hid (Pl.okB 1 n t = t.toList.isEmpty) := by show _ = _; simp [Pl.okB, h1.1, h1.2]
        go_enter Tryz.func54, Tryz.ntmps54
        go_wp2_with (go_at_call 50; refine (in_any _ _ _ _).mono ?_; rintro e w' ⟨rfl, rfl⟩)
        go_ret
        exact ⟨by rw [hf.out]; rfl, (Below.refl _ _).alloc (Nat.le_refl _) _⟩
      · have hf : Hid (Pl.okB 1 n t = false) := by
          show _ = _
          by_cases h2 : -1000000000 ≤ n <;> by_cases h3 : n ≤ 1000000000 <;> simp [Pl.okB, h2, h3]
          exact absurd ⟨h2, h3⟩ h1
        go_enter Tryz.func54, Tryz.ntmps54
        go_wp2_with (go_at_call 50; refine (in_any _ _ _ _).mono ?_; rintro e w' ⟨rfl, rfl⟩)
        go_ret
        exact ⟨by rw [hf.out]; rfl, (Below.refl _ _).alloc (Nat.le_refl _) _⟩
    · have k1' : (k == 1) = false := by simp [k1]
      by_cases k2 : k = 2
      · subst k2
        cases hn : (n == 0)
        · have hf : Hid (Pl.okB 2 n t = false) := by show _ = _; simp [Pl.okB, hn]
          go_enter Tryz.func54, Tryz.ntmps54
          go_wp2
          go_ret
          exact ⟨by rw [hf.out]; rfl, (Below.refl _ _).alloc (Nat.le_refl _) _⟩
        · have hf : Hid (Pl.okB 2 n t = Pl.textB t) := by show _ = _; simp [Pl.okB, hn]
          go_enter Tryz.func54, Tryz.ntmps54
          go_wp2_with (go_at_call 68; refine (l1Text_any _ ht _).mono ?_; rintro e w' ⟨rfl, rfl⟩)
          go_ret
          exact ⟨by rw [hf.out]; rfl, (Below.refl _ _).alloc (Nat.le_refl _) _⟩
      · have k2' : (k == 2) = false := by simp [k2]
        have hf : Hid (Pl.okB k n t = false) := by show _ = _; simp [Pl.okB, k0, k1, k2]
        clear k0 k1 k2
        go_enter Tryz.func54, Tryz.ntmps54
        go_wp2
        go_ret
        exact ⟨by rw [hf.out]; rfl, (Below.refl _ _).alloc (Nat.le_refl _) _⟩
end Go.Proofs.YtbckbfjnifafaaaGreatDoor
