/- Plain: the one value that a text tells. -/
import Derived.Test.YtbckbfjnifafaaaGreatDoorPlVg
import Derived.Test.YtbckbfjnifafaaaGreatDoorPlT
namespace Go.Proofs.YtbckbfjnifafaaaGreatDoor
set_option linter.unusedVariables false
namespace Pl
open Lib
/-- the value is ok, and its text is this -/
def TellsV (s : ByteArray) (k n : Int) (t : ByteArray) : Prop := okB k n t = true ∧ putV k n t = s.data.toList
theorem empty_of {t : ByteArray} (h : t.toList.isEmpty = true) : t = ⟨#[]⟩ := by
  apply eq_of_data
  rw [← Lib.toList_data]
  simpa using h
theorem itoa_head (n : Int) : ∃ c r, itoa n = c :: r ∧ c ≠ 34 ∧ c ≠ 110 := by
  unfold itoa
  split
  · exact ⟨45, _, rfl, by decide, by decide⟩
  · obtain ⟨c, r, e, h1, h2, _⟩ := dec_head n.toNat
    refine ⟨c, r, e, ?_, ?_⟩ <;> (intro h; subst h; simp at h1 h2)
/-- what tells a value has one of three forms -/
theorem tells_form {s : ByteArray} {k n : Int} {t : ByteArray} (h : TellsV s k n t) :
    (k = 0 ∧ n = 0 ∧ t = ⟨#[]⟩ ∧ s.data.toList = [110, 111, 110, 101]) ∨ (k = 1 ∧ t = ⟨#[]⟩ ∧ (-1000000000 ≤ n ∧ n ≤ 1000000000) ∧ s.data.toList = itoa n) ∨ (k = 2 ∧ n = 0 ∧ s.data.toList = 34 :: (t.data.toList ++ [34])) := by
  obtain ⟨ho, hp⟩ := h
  unfold okB at ho
  unfold putV at hp
  by_cases k0 : k = 0
  · subst k0
    simp only [if_true, Bool.and_eq_true, beq_iff_eq] at ho
    refine .inl ⟨rfl, ho.1, empty_of ho.2, ?_⟩
    rw [← hp]
    simp
  · rw [if_neg k0] at ho
    by_cases k1 : k = 1
    · subst k1
      simp only [if_true, Bool.and_eq_true, decide_eq_true_eq] at ho hp
      exact .inr (.inl ⟨rfl, empty_of ho.2, ho.1, hp.symm⟩)
    · rw [if_neg k1] at ho hp
      by_cases k2 : k = 2
      · subst k2
        simp only [if_true, Bool.and_eq_true, beq_iff_eq] at ho hp
        exact .inr (.inr ⟨rfl, ho.1, hp.symm⟩)
      · rw [if_neg k2] at ho
        cases ho
theorem tells_one {s : ByteArray} {k n k' n' : Int} {t t' : ByteArray} (h : TellsV s k n t) (h' : TellsV s k' n' t') : k = k' ∧ n = n' ∧ t = t' := by
  have N : ∀ m : Int, ∀ r : List UInt8, itoa m ≠ 110 :: r := fun m r e => by
    obtain ⟨c, q, h1, _, h3⟩ := itoa_head m
    rw [h1] at e
    cases e
    exact h3 rfl
  have T : ∀ m : Int, ∀ r : List UInt8, itoa m ≠ 34 :: r := fun m r e => by
    obtain ⟨c, q, h1, h2, _⟩ := itoa_head m
    rw [h1] at e
    cases e
    exact h2 rfl
  rcases tells_form h with ⟨rfl, rfl, rfl, e⟩ | ⟨rfl, rfl, ⟨a1, a2⟩, e⟩ | ⟨rfl, rfl, e⟩ <;> rcases tells_form h' with ⟨rfl, rfl, rfl, e'⟩ | ⟨rfl, rfl, ⟨b1, b2⟩, e'⟩ | ⟨rfl, rfl, e'⟩
  · exact ⟨rfl, rfl, rfl⟩
  · exact absurd (e'.symm.trans e) (N _ _)
  · rw [e] at e'; cases e'
  · exact absurd (e.symm.trans e') (N _ _)
  · have := (atoi_itoa n a1 a2).symm.trans ((congrArg atoiAll (e.symm.trans e')).trans (atoi_itoa n' b1 b2))
    cases this
    exact ⟨rfl, rfl, rfl⟩
  · exact absurd (e.symm.trans e') (T _ _)
  · rw [e] at e'; cases e'
  · exact absurd (e'.symm.trans e) (T _ _)
  · rw [e] at e'
    injection e' with _ e'
    exact ⟨rfl, rfl, eq_of_data (List.append_inj_left' e' rfl)⟩
/-- between the quotes -/
theorem mid_text {s t : ByteArray} (h : s.data.toList = 34 :: (t.data.toList ++ [34])) : s.extract 1 (s.size - 1) = t := by
  apply eq_of_data
  rw [Lib.extract_data]
  have hl : s.size = t.data.toList.length + 2 := by
    have : s.data.toList.length = s.size := by simp
    rw [← this, h]
    simp
  rw [h, hl]
  simp
theorem byte0 {s : ByteArray} (c : UInt8) (r : List UInt8) (h : s.data.toList = c :: r) (hs : 0 < s.size) : ((s[0]'hs).toNat : Int) = (c.toNat : Int) := by
  rw [byteAt_eq s 0 hs]
  unfold byteAt
  rw [h]
  rfl
theorem byteL {s t : ByteArray} (h : s.data.toList = 34 :: (t.data.toList ++ [34])) (hs : s.size - 1 < s.size) : ((s[s.size - 1]'hs).toNat : Int) = 34 := by
  rw [byteAt_eq s _ hs]
  have hl : s.size = t.data.toList.length + 2 := by
    have : s.data.toList.length = s.size := by simp
    rw [← this, h]
    simp
  unfold byteAt
  rw [h, hl]
  simp
theorem size_ge {s : ByteArray} {t : ByteArray} (h : s.data.toList = 34 :: (t.data.toList ++ [34])) : 2 ≤ s.size := by
  have : s.data.toList.length = s.size := by simp
  rw [h] at this
  simp at this
  omega
end Pl
end Go.Proofs.YtbckbfjnifafaaaGreatDoor
