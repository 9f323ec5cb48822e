/- A name, as the program has it. -/
import Derived.Test.YtbckbfjnifafaaaGreatDoorName1
import Derived.Test.YtbckbfjnifafaaaGreatDoorStr
namespace Go.Proofs.YtbckbfjnifafaaaGreatDoor
open Go.RowKit
set_option linter.unusedVariables false

set_option maxHeartbeats 800000 in
theorem implNameOk_any (s : ByteArray) (hs : s.size ≤ maxLen) (w : World) :
    Calls Tryz.prog 106 #[.string s] w fun e w' => e = .returned (.bool (Pl.nameB s)) ∧ w' = w := by
  by_cases h1 : 1 ≤ s.size
  · by_cases h2 : s.size ≤ 10
    · have hby := Pl.byteAt_eq s 0 h1
      have hne : s.toList.isEmpty = false := by
        obtain ⟨c, t, hct, _⟩ := Pl.bytes_cons s h1
        rw [Lib.toList_data, hct]; rfl
      cases hl : Pl.letB (Pl.byteAt s 0)
      · have hf := hide (Pl.name_first s h1 hl)
        go_enter Tryz.func106, Tryz.ntmps106
        go_wp2_with (first | (go_at_call 131; refine (isLetter_any _ _).mono ?_; rintro e w' ⟨rfl, rfl⟩))
        go_ret
        exact ⟨by rw [hf.out]; rfl, rfl⟩
      · have hf := hide (Pl.name_word s h1 h2 hl)
        cases hq : Pl.wordLen s.data.toList == (s.size : Int)
        all_goals
          go_enter Tryz.func106, Tryz.ntmps106
          go_wp2_with (first | (go_at_call 131; refine (isLetter_any _ _).mono ?_; rintro e w' ⟨rfl, rfl⟩) | (go_at_call 132; refine (wordLen_any _ hs h1 _).mono ?_; rintro e w' ⟨rfl, rfl⟩) | (go_at_call 133; refine (isKept_any _ _).mono ?_; rintro e w' ⟨rfl, rfl⟩))
          go_ret
          exact ⟨by rw [hf.out, hq]; rfl, rfl⟩
    · have hf := hide (Pl.name_size (s := s) (fun h => h2 h.2))
      have hne : s.toList.isEmpty = false := by
        obtain ⟨c, t, hct, _⟩ := Pl.bytes_cons s h1
        rw [Lib.toList_data, hct]; rfl
      unfold maxLen at hs
      go_enter Tryz.func106, Tryz.ntmps106
      go_wp2
      go_ret
      exact ⟨by rw [hf.out]; rfl, rfl⟩
  · have hf := hide (Pl.name_size (s := s) (fun h => h1 h.1))
    have hne : s.toList.isEmpty = true := by
      have : s.data.toList.length = s.size := by simp
      rw [Lib.toList_data, List.isEmpty_iff]
      exact List.eq_nil_of_length_eq_zero (by omega)
    go_enter Tryz.func106, Tryz.ntmps106
    go_wp2
    go_ret
    exact ⟨by rw [hf.out]; rfl, rfl⟩

end Go.Proofs.YtbckbfjnifafaaaGreatDoor
