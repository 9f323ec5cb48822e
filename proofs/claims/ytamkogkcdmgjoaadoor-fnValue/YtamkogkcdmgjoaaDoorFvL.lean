/- What is read of a value's text, and what is written of what was read. -/
import Derived.Test.YtamkogkcdmgjoaaDoorFvD
import Derived.Test.YtamkogkcdmgjoaaDoorLawVGt
namespace Go.Proofs.YtamkogkcdmgjoaaDoor
open Go.RowKit
set_option linter.unusedVariables false
set_option linter.unusedSimpArgs false

theorem CodeOk.up {n m : Nat} {W : World} {c : Value} {len : Nat} (h : CodeOk n W c len) (hb : n ≤ m) : CodeOk m W c len := by
  obtain ⟨ad, cap, hc, h1, h2, h3⟩ := h
  refine ⟨ad, cap, hc, h1, h2, fun hl => ?_⟩
  obtain ⟨b, off, ha, hbn, hz⟩ := h3 hl
  exact ⟨b, off, ha, by omega, hz⟩
theorem putV_some (k n : Int) (t : ByteArray) : Pl.putV k n t ≠ [] := by
  unfold Pl.putV
  split
  · obtain ⟨c, r, h, _⟩ := Pl.itoa_head n
    rw [h]; simp
  · split <;> simp
/-- what is read of a value's text -/
theorem get_back (k n : Int) (t : ByteArray) : ∀ (w : World) (e : Ending) (w' : World), VgPost (Pl.bs (Pl.putB k n t)) w e w' → e = .returned (if Pl.okB k n t = true then .tuple #[vAgg k n t, .bool true] else .tuple #[vAgg 0 0 ⟨#[]⟩, .bool false]) ∧ Below w.heap.size w w' := by
  rintro w e w' ⟨h, hB⟩
  refine ⟨?_, hB⟩
  cases hb : Pl.okB k n t
  · have hp : Pl.putB k n t = [] := by unfold Pl.putB; rw [hb]; rfl
    rw [if_neg (by simp)]
    rcases h with ⟨k', n', t', ht', _⟩ | ⟨_, rfl⟩
    · have := ht'.2
      rw [hp] at this
      exact absurd this (putV_some _ _ _)
    · rfl
  · have hp : Pl.putB k n t = Pl.putV k n t := by unfold Pl.putB; rw [if_pos hb]
    rw [if_pos rfl]
    have ht : Pl.TellsV (Pl.bs (Pl.putB k n t)) k n t := ⟨hb, by rw [hp]; rfl⟩
    rcases h with ⟨k', n', t', ht', rfl⟩ | ⟨hn, _⟩
    · obtain ⟨rfl, rfl, rfl⟩ := Pl.tells_one ht ht'
      rfl
    · exact absurd ht (hn _ _ _)
/-- what is read of any text is written just so -/
theorem put_again (s : ByteArray) : ∃ (k n : Int) (t : ByteArray) (b : Bool), (∀ (w : World) (e : Ending) (w' : World), VgPost s w e w' → e = .returned (.tuple #[vAgg k n t, .bool b]) ∧ Below w.heap.size w w') ∧ (b = true → Pl.putB k n t = s.data.toList) ∧ (-1000000000 ≤ n ∧ n ≤ 1000000000) ∧ (t.size ≤ s.size) := by
  by_cases hx : ∃ k n t, Pl.TellsV s k n t
  · obtain ⟨k, n, t, ht⟩ := hx
    refine ⟨k, n, t, true, ?_, fun _ => ?_, ?_, ?_⟩
    · rintro w e w' ⟨h, hB⟩
      rcases h with ⟨k', n', t', ht', rfl⟩ | ⟨hn, _⟩
      · obtain ⟨rfl, rfl, rfl⟩ := Pl.tells_one ht ht'
        exact ⟨rfl, hB⟩
      · exact absurd ht (hn _ _ _)
    · unfold Pl.putB
      rw [if_pos ht.1]
      exact ht.2
    · rcases Pl.tells_form ht with ⟨_, h, _, _⟩ | ⟨_, _, h, _⟩ | ⟨_, h, _⟩
      · omega
      · exact h
      · omega
    · rcases Pl.tells_form ht with ⟨_, _, h, _⟩ | ⟨_, h, _, _⟩ | ⟨_, _, h⟩
      · rw [h]; show 0 ≤ _; omega
      · rw [h]; show 0 ≤ _; omega
      · have h1 : s.data.toList.length = s.size := by simp
        have h2 : t.data.toList.length = t.size := by simp
        rw [h] at h1
        simp only [List.length_cons, List.length_append, List.length_nil] at h1
        omega
  · refine ⟨0, 0, ⟨#[]⟩, false, ?_, fun h => (by cases h), (by omega), Nat.zero_le _⟩
    rintro w e w' ⟨h, hB⟩
    rcases h with ⟨k', n', t', ht', _⟩ | ⟨_, rfl⟩
    · exact absurd ⟨_, _, _, ht'⟩ hx
    · exact ⟨rfl, hB⟩

end Go.Proofs.YtamkogkcdmgjoaaDoor
