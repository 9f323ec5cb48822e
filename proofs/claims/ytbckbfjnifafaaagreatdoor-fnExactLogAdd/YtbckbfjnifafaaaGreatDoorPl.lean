/- Plain facts on bytes and names that import nothing of the program. -/
import Derived.WalkKit
namespace Go.Proofs.YtbckbfjnifafaaaGreatDoor
open Go.RowKit
theorem hide {p : Prop} (h : p) : Hid p := h
namespace Pl

/-- a letter -/
def letB (c : Int) : Bool := (decide (97 ≤ c) && decide (c ≤ 122)) || (decide (65 ≤ c) && decide (c ≤ 90))
/-- a figure -/
def figB (c : Int) : Bool := decide (48 ≤ c) && decide (c ≤ 57)
/-- the words of the language -/
def keptL : List (List UInt8) := [[110, 111, 110, 101], [108, 101, 116], [115, 101, 116], [105, 102], [101, 108, 115, 101], [119, 104, 105, 108, 101], [99, 97, 108, 108], [103, 111], [106, 111, 105, 110], [115, 108, 101, 101, 112], [119, 97, 105, 116], [99, 104, 105, 108, 100], [100, 111, 110, 101], [102, 97, 105, 108], [97, 103, 97, 105, 110], [97, 110, 100], [111, 114], [110, 111, 116], [112, 114, 111, 103, 114, 97, 109]]
def keptB (s : List UInt8) : Bool := keptL.any (fun x => s == x)
theorem kept_none {s : List UInt8} (h : ∀ j, j < 19 → (keptL[j]?.getD [] == s) = false) : keptB s = false := by
  unfold keptB
  rw [List.any_eq_false]
  intro x hx
  obtain ⟨j, hj, rfl⟩ := List.mem_iff_getElem.1 hx
  have := h j (by simpa [keptL] using hj)
  simp only [List.getElem?_eq_getElem hj, Option.getD_some] at this
  intro hc
  rw [beq_iff_eq] at hc
  rw [← hc] at this
  simp at this
theorem kept_some {s : List UInt8} (j : Nat) (hj : j < 19) (h : (keptL[j]?.getD [] == s) = true) : keptB s = true := by
  unfold keptB
  rw [List.any_eq_true]
  have hj' : j < keptL.length := by simpa [keptL] using hj
  simp only [List.getElem?_eq_getElem hj', Option.getD_some] at h
  refine ⟨keptL[j], List.getElem_mem hj', ?_⟩
  rw [beq_iff_eq] at h
  rw [← h]; simp

/-- the byte at a place, as a number; 0 past the end -/
def byteAt (s : ByteArray) (j : Nat) : Int := ((s.data.toList[j]?.getD 0).toNat : Int)
theorem byteAt_eq (s : ByteArray) (j : Nat) (h : j < s.size) : (s[j].toNat : Int) = byteAt s j := by
  have h' : j < s.data.toList.length := by simpa using h
  unfold byteAt
  rw [List.getElem?_eq_getElem h']
  rfl
theorem byteAt_lo (s : ByteArray) (j : Nat) : 0 ≤ byteAt s j := by unfold byteAt; omega
theorem byteAt_hi (s : ByteArray) (j : Nat) : byteAt s j ≤ 255 := by
  unfold byteAt
  have := (s.data.toList[j]?.getD 0).toNat_lt
  omega

/-- what may stand at a name's place j -/
def nameAt (j : Nat) (c : Int) : Bool := letB c || (!(j == 0) && figB c)
def nameB (s : ByteArray) : Bool := (List.range s.size).all (fun j => nameAt j (byteAt s j)) && (decide (1 ≤ s.size) && (decide (s.size ≤ 10) && !keptB s.toList))
theorem name_all {s : ByteArray} (h : ∀ j, j < s.size → nameAt j (byteAt s j) = true) : (List.range s.size).all (fun j => nameAt j (byteAt s j)) = true := by
  rw [List.all_eq_true]; intro j hj; exact h j (List.mem_range.1 hj)
theorem name_not {s : ByteArray} (j : Nat) (hj : j < s.size) (h : nameAt j (byteAt s j) = false) : nameB s = false := by
  have : (List.range s.size).all (fun j => nameAt j (byteAt s j)) = false := by
    rw [List.all_eq_false]; exact ⟨j, List.mem_range.2 hj, by simp [h]⟩
  simp [nameB, this]
theorem name_size {s : ByteArray} (h : ¬ (1 ≤ s.size ∧ s.size ≤ 10)) : nameB s = false := by
  unfold nameB
  by_cases h2 : 1 ≤ s.size
  · by_cases h3 : s.size ≤ 10
    · exact absurd ⟨h2, h3⟩ h
    · simp [h3]
  · simp [h2]
/-- what may stand in a text -/
def seenB (c : Int) : Bool := decide (32 ≤ c) && (decide (c ≤ 126) && !(c == 34))
def textB (s : ByteArray) : Bool := (List.range s.size).all (fun j => seenB (byteAt s j)) && decide (s.size ≤ 24)
theorem text_all {s : ByteArray} (h : ∀ j, j < s.size → seenB (byteAt s j) = true) : (List.range s.size).all (fun j => seenB (byteAt s j)) = true := by
  rw [List.all_eq_true]; intro j hj; exact h j (List.mem_range.1 hj)
theorem text_not {s : ByteArray} (j : Nat) (hj : j < s.size) (h : seenB (byteAt s j) = false) : textB s = false := by
  have : (List.range s.size).all (fun j => seenB (byteAt s j)) = false := by
    rw [List.all_eq_false]; exact ⟨j, List.mem_range.2 hj, by simp [h]⟩
  simp [textB, this]
theorem text_big {s : ByteArray} (h : ¬ s.size ≤ 24) : textB s = false := by simp [textB, h]
theorem next_seen {s : ByteArray} {k : Nat} (h : ∀ j, j < k → seenB (byteAt s j) = true) (hk : seenB (byteAt s k) = true) : ∀ j, j < k + 1 → seenB (byteAt s j) = true := by
  intro j hj
  by_cases hjk : j = k
  · subst hjk; exact hk
  · exact h j (by omega)
/-- whether a value is ok, by its three fields -/
def okB (k n : Int) (t : ByteArray) : Bool :=
  if k = 0 then (n == 0) && t.toList.isEmpty
  else if k = 1 then (decide (-1000000000 ≤ n) && decide (n ≤ 1000000000)) && t.toList.isEmpty
  else if k = 2 then (n == 0) && textB t
  else false
end Pl
end Go.Proofs.YtbckbfjnifafaaaGreatDoor
