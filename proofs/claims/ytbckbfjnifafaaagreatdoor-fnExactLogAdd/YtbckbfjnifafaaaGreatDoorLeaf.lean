/- The contracts of the smallest functions: letters, figures, the words of the language. -/
import Derived.Test.YtbckbfjnifafaaaGreatDoorLeafB
namespace Go.Proofs.YtbckbfjnifafaaaGreatDoor
open Go.RowKit

set_option maxHeartbeats 400000 in
theorem isLetter_any (c : Int) (w : World) :
    Calls Tryz.prog 131 #[.int .u8 c] w fun e w' => e = .returned (.bool (Pl.letB c)) ∧ w' = w := by
  unfold Pl.letB
  by_cases h1 : 97 ≤ c <;> by_cases h2 : c ≤ 122 <;> by_cases h3 : 65 ≤ c <;> by_cases h4 : c ≤ 90
  all_goals first | (exfalso; omega) | skip
  all_goals
    go_enter Tryz.func131, Tryz.ntmps131
    go_wp2
    go_ret
    exact ⟨by simp [h1, h2, h3, h4], rfl⟩

set_option maxHeartbeats 400000 in
theorem l1Letter_any (c : Int) (w : World) :
    Calls Tryz.prog 66 #[.int .u8 c] w fun e w' => e = .returned (.bool (Pl.letB c)) ∧ w' = w := by
  unfold Pl.letB
  by_cases h1 : 97 ≤ c <;> by_cases h2 : c ≤ 122 <;> by_cases h3 : 65 ≤ c <;> by_cases h4 : c ≤ 90
  all_goals first | (exfalso; omega) | skip
  all_goals
    go_enter Tryz.func66, Tryz.ntmps66
    go_wp2
    go_ret
    exact ⟨by simp [h1, h2, h3, h4], rfl⟩

set_option maxHeartbeats 400000 in
theorem isFigure_any (c : Int) (w : World) :
    Calls Tryz.prog 169 #[.int .u8 c] w fun e w' => e = .returned (.bool (Pl.figB c)) ∧ w' = w := by
  unfold Pl.figB
  by_cases h1 : 48 ≤ c <;> by_cases h2 : c ≤ 57
  all_goals
    go_enter Tryz.func169, Tryz.ntmps169
    go_wp2
    go_ret
    exact ⟨by simp [h1, h2], rfl⟩

set_option maxHeartbeats 400000 in
theorem isKept_any (s : ByteArray) (w : World) :
    Calls Tryz.prog 133 #[.string s] w fun e w' => e = .returned (.bool (Pl.keptB s.toList)) ∧ w' = w := by
  go_enter Tryz.func133, Tryz.ntmps133
  go_wp2
  all_goals
    go_ret
    exact ⟨by simp_all [Pl.keptB, Pl.keptL], rfl⟩

def keptA : Array Value := #[.string ⟨#[110, 111, 110, 101]⟩, .string ⟨#[108, 101, 116]⟩, .string ⟨#[115, 101, 116]⟩, .string ⟨#[105, 102]⟩, .string ⟨#[101, 108, 115, 101]⟩, .string ⟨#[119, 104, 105, 108, 101]⟩, .string ⟨#[99, 97, 108, 108]⟩, .string ⟨#[103, 111]⟩, .string ⟨#[106, 111, 105, 110]⟩, .string ⟨#[115, 108, 101, 101, 112]⟩, .string ⟨#[119, 97, 105, 116]⟩, .string ⟨#[99, 104, 105, 108, 100]⟩, .string ⟨#[100, 111, 110, 101]⟩, .string ⟨#[102, 97, 105, 108]⟩, .string ⟨#[97, 103, 97, 105, 110]⟩, .string ⟨#[97, 110, 100]⟩, .string ⟨#[111, 114]⟩, .string ⟨#[110, 111, 116]⟩, .string ⟨#[112, 114, 111, 103, 114, 97, 109]⟩]
theorem keptA_at (k : Nat) (h : k < 19) : keptA[k]? = some (.string ⟨(Pl.keptL[k]?.getD []).toArray⟩) := by
  have : k = 0 ∨ k = 1 ∨ k = 2 ∨ k = 3 ∨ k = 4 ∨ k = 5 ∨ k = 6 ∨ k = 7 ∨ k = 8 ∨ k = 9 ∨ k = 10 ∨ k = 11 ∨ k = 12 ∨ k = 13 ∨ k = 14 ∨ k = 15 ∨ k = 16 ∨ k = 17 ∨ k = 18 := by omega
  rcases this with rfl | rfl | rfl | rfl | rfl | rfl | rfl | rfl | rfl | rfl | rfl | rfl | rfl | rfl | rfl | rfl | rfl | rfl | rfl <;> rfl

set_option maxHeartbeats 400000 in
theorem l1Kept_any (s : ByteArray) (w : World) :
    Calls Tryz.prog 67 #[.string s] w fun e w' => e = .returned (.bool (Pl.keptB s.toList)) ∧ Below w.heap.size w w' := by
  go_enter Tryz.func67, Tryz.ntmps67
  go_wp2
  obtain ⟨W, hW⟩ : ∃ W, W = w.alloc (.cells keptA 9) := ⟨_, rfl⟩
  have hc : ∀ k : Nat, k < 19 → W.cell? ⟨w.heap.size, k, none⟩ = some (.string ⟨(Pl.keptL[k]?.getD []).toArray⟩) := by
    intro k hk; rw [hW, World.cell?_alloc_at _ _ _ _ rfl, keptA_at k hk]
  have hB : Below w.heap.size w W := by rw [hW]; exact (Below.refl _ _).alloc (Nat.le_refl _) _
  unfold keptA at hW
  rw [← hW]
  clear hW
  go_loop [4] (fun i => ∃ k : Nat, k ≤ 19 ∧ i = .int .i64 k ∧ ∀ j, j < k → (Pl.keptL[j]?.getD [] == s.toList) = false) (fun i => 19 - (intOf i).toNat)
  case atStart => exact ⟨0, by omega, rfl, by intro j hj; omega⟩
  case round =>
    obtain ⟨k, hk, rfl, hno⟩ := hrel
    have HN : Hid (∀ j, j < k → (Pl.keptL[j]?.getD [] == s.toList) = false) := hno
    clear hno
    by_cases hlt : k < 19
    · have hck := hc k hlt
      clear hc
      go_wp2
      · go_ret
        have hf := Pl.kept_some k hlt (by assumption)
        exact ⟨by rw [hf]; rfl, hB⟩
      · have hno : (Pl.keptL[k]?.getD [] == s.toList) = false := by assumption
        refine ⟨⟨k + 1, by omega, by go_num, ?_⟩, by simp [intOf]; omega⟩
        intro j hj
        by_cases hjk : j = k
        · subst hjk; exact hno
        · exact HN.out j (by omega)
    · clear hc
      go_wp2
      go_ret
      have hf := Pl.kept_none (s := s.toList) fun j hj => HN.out j (by omega)
      exact ⟨by rw [hf]; rfl, hB⟩
end Go.Proofs.YtbckbfjnifafaaaGreatDoor
