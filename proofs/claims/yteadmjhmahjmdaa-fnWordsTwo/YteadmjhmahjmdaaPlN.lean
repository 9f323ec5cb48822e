/- Plain facts: a name is one word. -/
import Derived.Test.YteadmjhmahjmdaaPlT
namespace Go.Proofs.Yteadmjhmahjmdaa
open Go.RowKit
namespace Pl
theorem name_parts {s : ByteArray} (h : nameB s = true) : 1 ≤ s.size ∧ s.size ≤ 10 ∧ (∀ j, j < s.size → nameAt j (byteAt s j) = true) := by
  unfold nameB at h
  simp only [Bool.and_eq_true, decide_eq_true_eq, List.all_eq_true] at h
  exact ⟨h.2.1, h.2.2.1, fun j hj => h.1 j (List.mem_range.2 hj)⟩
theorem name_alnum {s : ByteArray} (h : nameB s = true) : ∀ j, j < s.data.toList.length → alnum (s.data.toList[j]?.getD 0) = true := by
  intro j hj
  have h1 := (name_parts h).2.2 j (by simpa using hj)
  unfold nameAt byteAt at h1
  unfold alnum
  rw [Bool.or_eq_true] at h1 ⊢
  rcases h1 with h1 | h1
  · exact .inl h1
  · rw [Bool.and_eq_true] at h1; exact .inr h1.2
theorem name_first_let {s : ByteArray} (h : nameB s = true) : letB (byteAt s 0) = true := by
  obtain ⟨h1, _, h3⟩ := name_parts h
  have := h3 0 (by omega)
  simpa [nameAt] using this
/-- a run of letters and figures, and something else behind -/
theorem runLen_append (l : List UInt8) (c : UInt8) (t : List UInt8) (h : ∀ j, j < l.length → alnum (l[j]?.getD 0) = true) (hc : alnum c = false) : runLen (l ++ c :: t) = l.length := by
  refine runLen_at _ l.length (by simp) (fun j hj => ?_) (fun _ => ?_)
  · rw [List.getElem?_append_left hj]; exact h j hj
  · rw [List.getElem?_append_right (Nat.le_refl _)]; simpa using hc
theorem tk_blank (c : UInt8) (t : List UInt8) (h : c = 32 ∨ c = 9 ∨ c = 10) : tk (c :: t) = tk t := by
  have hp := passLen_blank c t h
  rw [tk_pass (c :: t) (by simp) (by rw [hp]; decide), hp]
  rfl
/-- one word, and a blank behind it -/
theorem tk_run (l t : List UInt8) (hl : l ≠ []) (h : ∀ j, j < l.length → alnum (l[j]?.getD 0) = true) : tk (l ++ 32 :: t) = (l :: (tk t).1, (tk t).2) := by
  cases l with
  | nil => exact absurd rfl hl
  | cons c r =>
    have hc : alnum c = true := by simpa using h 0 (by simp)
    have hrun := runLen_append (c :: r) 32 t h (by decide)
    have hw : wordLen ((c :: r) ++ 32 :: t) = ((c :: r).length : Int) := by
      rw [List.cons_append, wordLen_run c _ hc, ← List.cons_append, hrun]
    have hp : passLen ((c :: r) ++ 32 :: t) = 0 := by
      rw [List.cons_append]
      refine passLen_none c _ ?_ ?_
      · rintro (rfl | rfl | rfl) <;> exact absurd hc (by decide)
      · rintro rfl; exact absurd hc (by decide)
    rw [tk_word _ (by simp) (by omega) (by rw [hw]; simp; omega), hw, Int.toNat_natCast, List.take_left, List.drop_left, tk_blank 32 t (.inl rfl)]
theorem tk_name {s : ByteArray} (h : nameB s = true) : tk ([32] ++ s.data.toList ++ [32]) = ([s.data.toList], true) := by
  obtain ⟨h1, _, _⟩ := name_parts h
  have hne : s.data.toList ≠ [] := by
    intro h0
    have : s.data.toList.length = s.size := by simp
    rw [h0] at this; simp at this; omega
  rw [List.append_assoc, List.singleton_append, tk_blank 32 _ (.inl rfl), tk_run _ _ hne (name_alnum h), tk_nil]
theorem name_blank (s t : ByteArray) (ht : t.data.toList = s.data.toList ++ [32]) : nameB t = false := by
  have hl : t.data.toList.length = t.size := by simp
  have hs : s.data.toList.length = s.size := by simp
  have hts : t.size = s.size + 1 := by rw [← hl, ht]; simp
  refine name_not s.size (by omega) ?_
  have : byteAt t s.size = 32 := by
    unfold byteAt
    rw [ht, List.getElem?_append_right (by simp)]
    simp
  rw [this]
  simp [nameAt, letB, figB]
theorem name_figure (s t : ByteArray) (ht : t.data.toList = 49 :: s.data.toList) : nameB t = false := by
  have hl : t.data.toList.length = t.size := by simp
  have hts : 1 ≤ t.size := by rw [← hl, ht]; simp
  refine name_first t hts ?_
  have : byteAt t 0 = 49 := by unfold byteAt; rw [ht]; rfl
  rw [this]; decide
end Pl
end Go.Proofs.Yteadmjhmahjmdaa
