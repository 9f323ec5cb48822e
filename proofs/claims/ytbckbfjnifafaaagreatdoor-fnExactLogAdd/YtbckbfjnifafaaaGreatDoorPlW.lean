/- Plain facts on words. -/
import Derived.Test.YtbckbfjnifafaaaGreatDoorPl
import Derived.Lib.Bytealg
import Derived.Lib.Strings
namespace Go.Proofs.YtbckbfjnifafaaaGreatDoor
open Go.RowKit
namespace Pl
def alnum (c : UInt8) : Bool := letB c.toNat || figB c.toNat
/-- how many letters and figures stand ahead -/
def runLen (l : List UInt8) : Nat := (l.takeWhile alnum).length
def signL : List UInt8 := [43, 45, 42, 60, 61, 40, 41, 123, 125, 59]
/-- how long the word is that a text begins with -/
def wordLen : List UInt8 → Int
  | [] => 0
  | c :: t => if c = 34 then (if 0 ≤ Lib.indexByte t 34 then Lib.indexByte t 34 + 2 else 0)
    else if (c :: t).take 2 = [61, 61] then 2
    else if 0 ≤ Lib.indexByte signL c then 1
    else runLen (c :: t)

theorem runLen_le (l : List UInt8) : runLen l ≤ l.length := by
  unfold runLen; exact List.takeWhile_sublist _ |>.length_le

/-- all ahead of k are letters or figures, and the one at k is none, or there is none -/
theorem runLen_at (l : List UInt8) (k : Nat) (hk : k ≤ l.length) (h : ∀ j, j < k → alnum (l[j]?.getD 0) = true) (hn : k < l.length → alnum (l[k]?.getD 0) = false) : runLen l = k := by
  unfold runLen
  induction l generalizing k with
  | nil => simp at hk; simp [hk]
  | cons c t ih =>
    cases k with
    | zero =>
      have h0 := hn (by simp)
      simp at h0
      simp [h0]
    | succ k =>
      have h0 := h 0 (by omega)
      simp at h0
      rw [List.takeWhile_cons, if_pos h0, List.length_cons, ih k (by simpa using hk)]
      · intro j hj; have := h (j + 1) (by omega); simpa using this
      · intro hl; have := hn (by simpa using hl); simpa using this
theorem indexByte_lt (l : List UInt8) (c : UInt8) : Lib.indexByte l c < l.length := by
  induction l with
  | nil => simp [Lib.indexByte]
  | cons b l ih =>
    simp only [Lib.indexByte, List.length_cons]
    split
    · omega
    · split <;> omega
theorem bytes_cons (s : ByteArray) (h0 : 1 ≤ s.size) : ∃ c t, s.data.toList = c :: t ∧ t.length + 1 = s.size := by
  have h1 : s.data.toList.length = s.size := by simp
  cases h : s.data.toList with
  | nil => rw [h] at h1; simp at h1; omega
  | cons c t => rw [h] at h1; exact ⟨c, t, rfl, by simpa using h1⟩
theorem indexByte_not (l : List UInt8) (c : UInt8) (h : c ∉ l) : Lib.indexByte l c = -1 := by
  induction l with
  | nil => rfl
  | cons b l ih =>
    have h1 : ¬ b = c := fun e => h (by simp [e])
    have h2 : c ∉ l := fun e => h (by simp [e])
    simp [Lib.indexByte, h1, ih h2]
theorem letter_no_sign (c : UInt8) (h : letB c.toNat = true) : c ∉ signL := by
  intro hc
  simp only [signL, List.mem_cons, List.not_mem_nil, or_false] at hc
  rcases hc with rfl | rfl | rfl | rfl | rfl | rfl | rfl | rfl | rfl | rfl <;> exact absurd h (by decide)
theorem wordLen_letter (c : UInt8) (t : List UInt8) (h : letB c.toNat = true) : wordLen (c :: t) = runLen (c :: t) := by
  have h1 : ¬ c = 34 := by rintro rfl; exact absurd h (by decide)
  have h2 : ¬ c = 61 := by rintro rfl; exact absurd h (by decide)
  have h3 := indexByte_not signL c (letter_no_sign c h)
  simp [wordLen, h1, h2, h3]
theorem runLen_all (l : List UInt8) : runLen l = l.length ↔ ∀ j, j < l.length → alnum (l[j]?.getD 0) = true := by
  unfold runLen
  induction l with
  | nil => simp
  | cons c t ih =>
    by_cases hc : alnum c = true
    · rw [List.takeWhile_cons, if_pos hc, List.length_cons, List.length_cons, Nat.add_right_cancel_iff, ih]
      constructor
      · intro h j hj
        cases j with
        | zero => simpa using hc
        | succ j => simpa using h j (by omega)
      · intro h j hj; simpa using h (j + 1) (by omega)
    · rw [List.takeWhile_cons, if_neg hc]
      constructor
      · intro h; simp at h
      · intro h; exact absurd (by simpa using h 0 (by simp)) hc
theorem name_word (s : ByteArray) (h1 : 1 ≤ s.size) (h2 : s.size ≤ 10) (hl : letB (byteAt s 0) = true) : nameB s = ((wordLen s.data.toList == (s.size : Int)) && !keptB s.toList) := by
  obtain ⟨c, t, hct, hlen⟩ := bytes_cons s h1
  have hb0 : byteAt s 0 = (c.toNat : Int) := by unfold byteAt; rw [hct]; rfl
  rw [hb0] at hl
  have hw : wordLen s.data.toList = runLen s.data.toList := by rw [hct]; exact wordLen_letter c t hl
  have hsz : s.data.toList.length = s.size := by simp
  have hall : (List.range s.size).all (fun j => nameAt j (byteAt s j)) = (wordLen s.data.toList == (s.size : Int)) := by
    rw [hw, Bool.eq_iff_iff, List.all_eq_true, beq_iff_eq]
    constructor
    · intro h
      have := (runLen_all s.data.toList).2 (by
        intro j hj
        have := h j (List.mem_range.2 (by omega))
        simp only [nameAt, byteAt] at this
        unfold alnum
        rw [Bool.or_eq_true] at this ⊢
        rcases this with h | h
        · exact .inl h
        · rw [Bool.and_eq_true] at h; exact .inr h.2)
      omega
    · intro h j hj
      have hj' := List.mem_range.1 hj
      have := (runLen_all s.data.toList).1 (by omega) j (by omega)
      unfold nameAt
      by_cases h0 : j = 0
      · subst h0; rw [hb0, hl]; rfl
      · unfold alnum at this
        unfold byteAt
        simpa [h0] using this
  unfold nameB
  rw [hall]
  simp [h1, h2]
theorem name_first (s : ByteArray) (h1 : 1 ≤ s.size) (hl : letB (byteAt s 0) = false) : nameB s = false :=
  name_not 0 h1 (by simp [nameAt, hl])
end Pl
end Go.Proofs.YtbckbfjnifafaaaGreatDoor
