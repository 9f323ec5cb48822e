/- Plain facts on the words of a text. -/
import Derived.Test.YtbckbfjnifafaaaGreatDoorPlW
namespace Go.Proofs.YtbckbfjnifafaaaGreatDoor
open Go.RowKit
namespace Pl

/-- how much of the beginning of a text says nothing -/
def passLen : List UInt8 → Int
  | [] => 0
  | c :: t => if c = 32 ∨ c = 9 ∨ c = 10 then 1
    else if c = 35 then (if 0 ≤ Lib.indexByte (c :: t) 10 then Lib.indexByte (c :: t) 10 else ((c :: t).length : Int))
    else 0

theorem passLen_le (l : List UInt8) : 0 ≤ passLen l ∧ passLen l ≤ l.length := by
  cases l with
  | nil => simp [passLen]
  | cons c t =>
    have h1 := indexByte_lt (c :: t) 10
    simp only [passLen]
    split
    · simp; omega
    · split
      · split <;> omega
      · simp; omega

theorem wordLen_le (l : List UInt8) : 0 ≤ wordLen l ∧ wordLen l ≤ l.length := by
  cases l with
  | nil => simp [wordLen]
  | cons c t =>
    have h1 := indexByte_lt t 34
    have h2 := runLen_le (c :: t)
    simp only [wordLen]
    split
    · split
      · simp; omega
      · simp; omega
    · split
      · next h =>
        have := congrArg List.length h
        simp at this
        simp; omega
      · split
        · simp; omega
        · simp at h2 ⊢; omega

/-- the words of a text, and whether there is nothing else; n: more rounds than it has bytes -/
def toks : Nat → List UInt8 → List (List UInt8) × Bool
  | 0, _ => ([], true)
  | n + 1, l => if l = [] then ([], true)
    else if 0 < passLen l then toks n (l.drop (passLen l).toNat)
    else if wordLen l = 0 then ([], false)
    else ((l.take (wordLen l).toNat) :: (toks n (l.drop (wordLen l).toNat)).1, (toks n (l.drop (wordLen l).toNat)).2)

theorem toks_fuel : ∀ (n m : Nat) (l : List UInt8), l.length ≤ n → l.length ≤ m → toks n l = toks m l
  | 0, m, l, h, _ => by
    have : l = [] := List.eq_nil_of_length_eq_zero (by omega)
    subst this
    cases m <;> simp [toks]
  | n + 1, 0, l, _, h => by
    have : l = [] := List.eq_nil_of_length_eq_zero (by omega)
    subst this
    simp [toks]
  | n + 1, m + 1, l, h, k => by
    by_cases hl : l = []
    · simp [toks, hl]
    · have hpos : 0 < l.length := by cases l; exact absurd rfl hl; simp
      have hp := passLen_le l
      have hw := wordLen_le l
      by_cases h0 : 0 < passLen l
      · simp only [toks, if_neg hl, if_pos h0]
        exact toks_fuel n m _ (by rw [List.length_drop]; omega) (by rw [List.length_drop]; omega)
      · by_cases h1 : wordLen l = 0
        · simp only [toks, if_neg hl, if_neg h0, if_pos h1]
        · simp only [toks, if_neg hl, if_neg h0, if_neg h1]
          rw [toks_fuel n m (l.drop (wordLen l).toNat) (by rw [List.length_drop]; omega) (by rw [List.length_drop]; omega)]

/-- the words of a text, and whether there is nothing else -/
def tk (l : List UInt8) : List (List UInt8) × Bool := toks l.length l

theorem tk_nil : tk [] = ([], true) := rfl
theorem tk_pass (l : List UInt8) (hl : l ≠ []) (h : 0 < passLen l) : tk l = tk (l.drop (passLen l).toNat) := by
  have hpos : 0 < l.length := by cases l; exact absurd rfl hl; simp
  unfold tk
  rw [toks_fuel l.length (l.length + 1) l (Nat.le_refl _) (by omega)]
  simp only [toks, if_neg hl, if_pos h]
  exact toks_fuel _ _ _ (by rw [List.length_drop]; omega) (Nat.le_refl _)
theorem tk_bad (l : List UInt8) (hl : l ≠ []) (h : ¬ 0 < passLen l) (h1 : wordLen l = 0) : tk l = ([], false) := by
  unfold tk
  rw [toks_fuel l.length (l.length + 1) l (Nat.le_refl _) (by omega)]
  simp only [toks, if_neg hl, if_neg h, if_pos h1]
theorem tk_word (l : List UInt8) (hl : l ≠ []) (h : ¬ 0 < passLen l) (h1 : wordLen l ≠ 0) :
    tk l = (l.take (wordLen l).toNat :: (tk (l.drop (wordLen l).toNat)).1, (tk (l.drop (wordLen l).toNat)).2) := by
  have hw := wordLen_le l
  unfold tk
  rw [toks_fuel l.length (l.length + 1) l (Nat.le_refl _) (by omega)]
  simp only [toks, if_neg hl, if_neg h, if_neg h1]
  rw [toks_fuel l.length _ (l.drop (wordLen l).toNat) (by rw [List.length_drop]; omega) (Nat.le_refl _)]

/-- no word is empty -/
theorem toks_ne : ∀ (n : Nat) (l x : List UInt8), x ∈ (toks n l).1 → x ≠ []
  | 0, l, x, h => by simp [toks] at h
  | n + 1, l, x, h => by
    by_cases hl : l = []
    · simp [toks, hl] at h
    · have hw := wordLen_le l
      by_cases h0 : 0 < passLen l
      · simp only [toks, if_neg hl, if_pos h0] at h
        exact toks_ne n _ x h
      · by_cases h1 : wordLen l = 0
        · simp [toks, if_neg hl, if_neg h0, if_pos h1] at h
        · simp only [toks, if_neg hl, if_neg h0, if_neg h1, List.mem_cons] at h
          rcases h with h | h
          · subst h
            intro hc
            have := congrArg List.length hc
            simp only [List.length_take, List.length_nil] at this
            have : 0 < l.length := by cases l; exact absurd rfl hl; simp
            omega
          · exact toks_ne n _ x h
/-- all words together are no longer than the text -/
theorem toks_len : ∀ (n : Nat) (l : List UInt8), (toks n l).1.length ≤ l.length ∧ ∀ x ∈ (toks n l).1, x.length ≤ l.length
  | 0, l => by simp [toks]
  | n + 1, l => by
    by_cases hl : l = []
    · simp [toks, hl]
    · have hw := wordLen_le l
      have hp := passLen_le l
      by_cases h0 : 0 < passLen l
      · simp only [toks, if_neg hl, if_pos h0]
        have := toks_len n (l.drop (passLen l).toNat)
        rw [List.length_drop] at this
        exact ⟨by omega, fun x hx => by have := this.2 x hx; omega⟩
      · by_cases h1 : wordLen l = 0
        · simp [toks, if_neg hl, if_neg h0, if_pos h1]
        · simp only [toks, if_neg hl, if_neg h0, if_neg h1]
          have := toks_len n (l.drop (wordLen l).toNat)
          rw [List.length_drop] at this
          refine ⟨by rw [List.length_cons]; omega, fun x hx => ?_⟩
          rw [List.mem_cons] at hx
          rcases hx with rfl | hx
          · rw [List.length_take]; omega
          · have := this.2 x hx; omega
theorem tk_len (l : List UInt8) : (tk l).1.length ≤ l.length ∧ ∀ x ∈ (tk l).1, x.length ≤ l.length := toks_len _ _

/-- bytes as a text -/
def bs (l : List UInt8) : ByteArray := ⟨l.toArray⟩
theorem bs_data (l : List UInt8) : (bs l).data.toList = l := rfl
theorem bs_size (l : List UInt8) : (bs l).size = l.length := rfl
theorem bs_toList (l : List UInt8) : (bs l).toList = l := by rw [Lib.toList_data]; rfl
theorem bs_of (s : ByteArray) : bs s.data.toList = s := rfl
theorem eq_of_data {s t : ByteArray} (h : s.data.toList = t.data.toList) : s = t := by
  obtain ⟨⟨a⟩⟩ := s
  obtain ⟨⟨b⟩⟩ := t
  simp only at h
  rw [h]
theorem extract_head (s : ByteArray) (k : Nat) : s.extract 0 k = bs (s.data.toList.take k) :=
  eq_of_data (by rw [Lib.extract_data]; simp [bs])
theorem extract_tail (s : ByteArray) (k : Nat) : s.extract k s.size = bs (s.data.toList.drop k) :=
  eq_of_data (by
    rw [Lib.extract_data, List.take_of_length_le]
    · rfl
    · rw [List.length_drop]; simp)
theorem figB_no (c : UInt8) (h : alnum c = true) : ¬ c = 34 ∧ ¬ c = 61 ∧ c ∉ signL := by
  refine ⟨by rintro rfl; exact absurd h (by decide), by rintro rfl; exact absurd h (by decide), ?_⟩
  intro hc
  simp only [signL, List.mem_cons, List.not_mem_nil, or_false] at hc
  rcases hc with rfl | rfl | rfl | rfl | rfl | rfl | rfl | rfl | rfl | rfl <;> exact absurd h (by decide)
theorem wordLen_run (c : UInt8) (t : List UInt8) (h : alnum c = true) : wordLen (c :: t) = runLen (c :: t) := by
  obtain ⟨h1, h2, h3⟩ := figB_no c h
  have h3 := indexByte_not signL c h3
  simp [wordLen, h1, h2, h3]
theorem runLen_pos (c : UInt8) (t : List UInt8) (h : runLen (c :: t) ≠ 0) : alnum c = true := by
  cases hc : alnum c
  · exact absurd (by simp [runLen, hc]) h
  · rfl
theorem runLen_zero (c : UInt8) (t : List UInt8) (h : runLen (c :: t) = 0) : alnum c = false := by
  cases hc : alnum c
  · rfl
  · simp [runLen, hc] at h
/-- the first place of a byte, told by what stands ahead of it -/
theorem indexByte_at : ∀ (l : List UInt8) (c : UInt8) (k : Nat), k < l.length → (∀ j, j < k → l[j]?.getD 0 ≠ c) → l[k]?.getD 0 = c → Lib.indexByte l c = k
  | [], _, _, h, _, _ => by simp at h
  | b :: l, c, 0, _, _, hk => by
    have : b = c := by simpa using hk
    simp [Lib.indexByte, this]
  | b :: l, c, k + 1, h, hn, hk => by
    have h0 : b ≠ c := by simpa using hn 0 (by omega)
    have ih := indexByte_at l c k (by simpa using h) (fun j hj => by simpa using hn (j + 1) (by omega)) (by simpa using hk)
    have h1 : ¬ ((k : Int) = -1) := by omega
    simp [Lib.indexByte, h0, ih, h1]
theorem indexByte_none' : ∀ (l : List UInt8) (c : UInt8), (∀ j, j < l.length → l[j]?.getD 0 ≠ c) → Lib.indexByte l c = -1
  | [], _, _ => rfl
  | b :: l, c, hn => by
    have h0 : b ≠ c := by simpa using hn 0 (by simp)
    have ih := indexByte_none' l c (fun j hj => by simpa using hn (j + 1) (by simpa using hj))
    simp [Lib.indexByte, h0, ih]
/-- what Words hands back -/
def wordsL (l : List UInt8) : List (List UInt8) := if (tk l).2 = true then (tk l).1 else []
theorem drop_cons (l : List UInt8) (k : Nat) (h : k < l.length) : l.drop k = (l[k]?.getD 0) :: l.drop (k + 1) := by
  rw [List.getElem?_eq_getElem h, Option.getD_some]; exact List.drop_eq_getElem_cons h
theorem passLen_blank (c : UInt8) (t : List UInt8) (h : c = 32 ∨ c = 9 ∨ c = 10) : passLen (c :: t) = 1 := by
  simp only [passLen, if_pos h]
theorem passLen_none (c : UInt8) (t : List UInt8) (h : ¬ (c = 32 ∨ c = 9 ∨ c = 10)) (h2 : ¬ c = 35) : passLen (c :: t) = 0 := by
  simp only [passLen, if_neg h, if_neg h2]
/-- a note: all up to a line end -/
theorem passLen_note (l : List UInt8) (k m : Nat) (hk : k < m) (hm : m ≤ l.length) (h35 : l[k]?.getD 0 = 35) (hno : ∀ j, k ≤ j → j < m → l[j]?.getD 0 ≠ 10) (hend : m < l.length → l[m]?.getD 0 = 10) :
    passLen (l.drop k) = ((m - k : Nat) : Int) := by
  have hd := drop_cons l k (by omega)
  have hnb : ¬ (l[k]?.getD 0 = 32 ∨ l[k]?.getD 0 = 9 ∨ l[k]?.getD 0 = 10) := by rw [h35]; decide
  have hget : ∀ j, (l.drop k)[j]? = l[k + j]? := fun j => by rw [List.getElem?_drop]
  rw [hd]
  simp only [passLen, if_neg hnb, if_pos h35]
  rw [← hd]
  by_cases hlt : m < l.length
  · have hix := indexByte_at (l.drop k) 10 (m - k) (by rw [List.length_drop]; omega) (fun j hj => by rw [hget]; exact hno (k + j) (by omega) (by omega)) (by rw [hget, show k + (m - k) = m from by omega]; exact hend hlt)
    rw [hix, if_pos (by omega)]
  · have hix := indexByte_none' (l.drop k) 10 (fun j hj => by rw [hget]; rw [List.length_drop] at hj; exact hno (k + j) (by omega) (by omega))
    rw [hix, if_neg (by omega), List.length_drop]
    omega
/-- one step of the words from place k on -/
theorem tk_on_pass {l : List UInt8} {pre : List (List UInt8)} {k m : Nat} (h : tk l = (pre ++ (tk (l.drop k)).1, (tk (l.drop k)).2)) (hk : k < m) (hkl : k < l.length) (hp : passLen (l.drop k) = ((m - k : Nat) : Int)) :
    tk l = (pre ++ (tk (l.drop m)).1, (tk (l.drop m)).2) := by
  have hne : l.drop k ≠ [] := by rw [drop_cons l k hkl]; simp
  have := tk_pass (l.drop k) hne (by omega)
  rw [hp, Int.toNat_natCast, List.drop_drop, show k + (m - k) = m from by omega] at this
  rw [h, this]
theorem tk_on_word {l : List UInt8} {pre : List (List UInt8)} {k : Nat} (h : tk l = (pre ++ (tk (l.drop k)).1, (tk (l.drop k)).2)) (hkl : k < l.length) (hp : passLen (l.drop k) = 0) (hw : wordLen (l.drop k) ≠ 0) :
    tk l = ((pre ++ [(l.drop k).take (wordLen (l.drop k)).toNat]) ++ (tk (l.drop (k + (wordLen (l.drop k)).toNat))).1, (tk (l.drop (k + (wordLen (l.drop k)).toNat))).2) := by
  have hne : l.drop k ≠ [] := by rw [drop_cons l k hkl]; simp
  have := tk_word (l.drop k) hne (by omega) hw
  rw [List.drop_drop] at this
  rw [h, this]
  simp
theorem tk_on_bad {l : List UInt8} {pre : List (List UInt8)} {k : Nat} (h : tk l = (pre ++ (tk (l.drop k)).1, (tk (l.drop k)).2)) (hkl : k < l.length) (hp : passLen (l.drop k) = 0) (hw : wordLen (l.drop k) = 0) : (tk l).2 = false := by
  have hne : l.drop k ≠ [] := by rw [drop_cons l k hkl]; simp
  rw [h, tk_bad (l.drop k) hne (by omega) hw]
theorem tk_on_end {l : List UInt8} {pre : List (List UInt8)} {k : Nat} (h : tk l = (pre ++ (tk (l.drop k)).1, (tk (l.drop k)).2)) (hkl : l.length ≤ k) : tk l = (pre, true) := by
  rw [h, List.drop_of_length_le hkl, tk_nil]; simp
end Pl
end Go.Proofs.YtbckbfjnifafaaaGreatDoor
