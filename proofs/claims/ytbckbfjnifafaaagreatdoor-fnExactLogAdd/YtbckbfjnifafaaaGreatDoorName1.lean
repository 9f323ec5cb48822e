/- A name, as the model has it. -/
import Derived.Test.YtbckbfjnifafaaaGreatDoorLeaf
namespace Go.Proofs.YtbckbfjnifafaaaGreatDoor
open Go.RowKit
theorem Pl.next_all {s : ByteArray} {k : Nat} (h : ∀ j, j < k → Pl.nameAt j (Pl.byteAt s j) = true) (hk : Pl.nameAt k (Pl.byteAt s k) = true) : ∀ j, j < k + 1 → Pl.nameAt j (Pl.byteAt s j) = true := by
  intro j hj
  by_cases hjk : j = k
  · subst hjk; exact hk
  · exact h j (by omega)
set_option maxHeartbeats 800000 in
theorem l1Name_any (s : ByteArray) (hs : s.size ≤ maxLen) (w : World) :
    Calls Tryz.prog 53 #[.string s] w fun e w' => e = .returned (.bool (Pl.nameB s)) ∧ Below w.heap.size w w' := by
  unfold maxLen at hs
  go_enter Tryz.func53, Tryz.ntmps53
  go_wp2_with fail
  go_loop [3] (fun i => ∃ k : Nat, k ≤ s.size ∧ i = .int .i64 k ∧ ∀ j, j < k → Pl.nameAt j (Pl.byteAt s j) = true) (fun i => s.size - (intOf i).toNat)
  case atStart => exact ⟨0, by omega, rfl, by intro j hj; omega⟩
  case round =>
    obtain ⟨k, hk, rfl, hno⟩ := hrel
    have HN : Hid (∀ j, j < k → Pl.nameAt j (Pl.byteAt s j) = true) := hno
    clear hno
    by_cases hlt : k < s.size
    · have hby := Pl.byteAt_eq s k hlt
      have hb0 := Pl.byteAt_lo s k
      have hb1 := Pl.byteAt_hi s k
      generalize hc : Pl.byteAt s k = c at hby hb0 hb1
      have HC := hide hc
      clear hc
      cases hl : Pl.letB c
      · by_cases h0 : k = 0
        · subst h0
          go_wp2_with (go_at_call 66; refine (l1Letter_any _ _).mono ?_; rintro e w' ⟨rfl, rfl⟩)
          go_ret
          have hf : Pl.nameB s = false := Pl.name_not 0 hlt (by rw [HC.out]; simp [Pl.nameAt, hl])
          exact ⟨by rw [hf]; rfl, Below.refl _ _⟩
        · have h0' : ((k : Int) == 0) = false := beq_eq_false_iff_ne.2 (by omega)
          by_cases h1 : 48 ≤ c <;> by_cases h2 : c ≤ 57
          all_goals go_wp2_with (go_at_call 66; refine (l1Letter_any _ _).mono ?_; rintro e w' ⟨rfl, rfl⟩)
          · refine ⟨⟨k + 1, by omega, by go_num, ?_⟩, by simp [intOf]; omega⟩
            exact Pl.next_all HN.out (by rw [HC.out]; simp [Pl.nameAt, Pl.figB, hl, h0, h1, h2])
          all_goals
            go_ret
            have hf : Pl.nameB s = false := Pl.name_not k hlt (by rw [HC.out]; simp [Pl.nameAt, Pl.figB, hl, h1, h2])
            exact ⟨by rw [hf]; rfl, Below.refl _ _⟩
      · go_wp2_with (go_at_call 66; refine (l1Letter_any _ _).mono ?_; rintro e w' ⟨rfl, rfl⟩)
        refine ⟨⟨k + 1, by omega, by go_num, ?_⟩, by simp [intOf]; omega⟩
        exact Pl.next_all HN.out (by rw [HC.out]; simp [Pl.nameAt, hl])
    · have hall := hide (Pl.name_all (s := s) fun j hj => HN.out j (by omega))
      by_cases h1 : 1 ≤ s.size ∧ s.size ≤ 10
      · obtain ⟨h1, h2⟩ := h1
        go_wp2_with (first | (go_at_call 50; refine (in_any _ _ _ _).mono ?_; rintro e w' ⟨rfl, rfl⟩) | (go_at_call 67; refine (l1Kept_any _ _).mono ?_; rintro e w' ⟨rfl, hB⟩))
        go_ret
        exact ⟨by have h3 := hall.out; simp [Pl.nameB, h3, h1, h2], hB⟩
      · go_wp2_with (first | (go_at_call 50; refine (in_any _ _ _ _).mono ?_; rintro e w' ⟨rfl, rfl⟩))
        go_ret
        refine ⟨?_, Below.refl _ _⟩
        rw [Pl.name_size h1]; rfl

end Go.Proofs.YtbckbfjnifafaaaGreatDoor
