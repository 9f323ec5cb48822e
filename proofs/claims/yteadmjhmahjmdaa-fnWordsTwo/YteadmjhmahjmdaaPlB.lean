/- Plain facts: words with blanks between, and words of two texts with a line end between. -/
import Derived.Test.YteadmjhmahjmdaaPlN
import Derived.Lib.IndexLaws
namespace Go.Proofs.Yteadmjhmahjmdaa
open Go.RowKit
namespace Pl
theorem indexByte_append : ∀ (l r : List UInt8) (c : UInt8), 0 ≤ Lib.indexByte l c → Lib.indexByte (l ++ r) c = Lib.indexByte l c
  | [], _, _, h => by simp [Lib.indexByte] at h
  | b :: l, r, c, h => by
    by_cases hb : b = c
    · simp [Lib.indexByte, hb]
    · have hn : ¬ Lib.indexByte l c = -1 := by
        intro h0
        simp [Lib.indexByte, hb, h0] at h
      have hge := Lib.indexByte_ge l c
      have ih := indexByte_append l r c (by omega)
      simp [Lib.indexByte, hb, ih]
theorem indexByte_behind : ∀ (l r : List UInt8) (c : UInt8), Lib.indexByte l c = -1 → Lib.indexByte (l ++ c :: r) c = l.length
  | [], _, _, _ => by simp [Lib.indexByte]
  | b :: l, r, c, h => by
    by_cases hb : b = c
    · simp [Lib.indexByte, hb] at h
    · have hn : Lib.indexByte l c = -1 := by
        have hge := Lib.indexByte_ge l c
        simp only [Lib.indexByte] at h
        rw [if_neg (by simpa using hb)] at h
        split at h
        · next h1 => simpa using h1
        · omega
      have ih := indexByte_behind l r c hn
      have h1 : ¬ ((l.length : Int) = -1) := by omega
      simp [Lib.indexByte, hb, ih, h1]
theorem runLen_line (l r : List UInt8) (c : UInt8) (hc : alnum c = false) : runLen (l ++ c :: r) = runLen l := by
  unfold runLen
  induction l with
  | nil => simp [hc]
  | cons b l ih =>
    cases hb : alnum b
    · simp [hb]
    · simp [hb, ih]
theorem sign_mem (c : UInt8) (h : 0 ≤ Lib.indexByte signL c) : c ∈ signL := by
  apply Classical.byContradiction
  intro hn
  rw [indexByte_not signL c hn] at h
  omega
theorem sign_no_pass (c : UInt8) (h : c ∈ signL) : ¬ (c = 32 ∨ c = 9 ∨ c = 10) ∧ ¬ c = 35 := by
  simp only [signL, List.mem_cons, List.not_mem_nil, or_false] at h
  rcases h with rfl | rfl | rfl | rfl | rfl | rfl | rfl | rfl | rfl | rfl <;> decide
theorem alnum_no_pass (c : UInt8) (h : alnum c = true) : ¬ (c = 32 ∨ c = 9 ∨ c = 10) ∧ ¬ c = 35 := by
  constructor
  · rintro (rfl | rfl | rfl) <;> exact absurd h (by decide)
  · rintro rfl; exact absurd h (by decide)

/-- a word: with a blank behind it stays one, whatever follows -/
def IsWord (x : List UInt8) : Prop := x ≠ [] ∧ ∀ t, passLen (x ++ 32 :: t) = 0 ∧ wordLen (x ++ 32 :: t) = x.length

theorem isWord_take (c : UInt8) (t : List UInt8) (hw : wordLen (c :: t) ≠ 0) : IsWord ((c :: t).take (wordLen (c :: t)).toNat) := by
  have hle := wordLen_le (c :: t)
  by_cases h34 : c = 34
  · subst h34
    have e : wordLen (34 :: t) = if 0 ≤ Lib.indexByte t 34 then Lib.indexByte t 34 + 2 else 0 := by simp [wordLen]
    by_cases hi : 0 ≤ Lib.indexByte t 34
    · rw [if_pos hi] at e
      obtain ⟨o, ho⟩ := Int.eq_ofNat_of_zero_le hi
      have hlt := indexByte_lt t 34
      have e2 : (wordLen (34 :: t)).toNat = (o + 1) + 1 := by rw [e, ho]; omega
      rw [e2, List.take_succ_cons]
      refine ⟨by simp, fun r => ⟨by simp [passLen], ?_⟩⟩
      have hl : (t.take (o + 1)).length = o + 1 := by rw [List.length_take]; omega
      have hsome := Lib.indexByte_some ho
      have hix : Lib.indexByte (t.take (o + 1) ++ 32 :: r) 34 = (o : Int) := by
        refine indexByte_at _ 34 o (by simp; omega) (fun j hj => ?_) ?_
        · rw [List.getElem?_append_left (by omega), List.getElem?_take, if_pos (by omega)]
          have hjt : j < t.length := by omega
          have := hsome.2 j hj
          rw [List.getElem?_eq_getElem hjt] at this ⊢
          simpa using this
        · rw [List.getElem?_append_left (by omega), List.getElem?_take, if_pos (by omega), hsome.1]; rfl
      simp only [List.cons_append, wordLen, if_true, hix]
      rw [if_pos (by omega), List.length_cons, hl]
      omega
    · rw [if_neg hi] at e; exact absurd e hw
  · by_cases h2 : (c :: t).take 2 = [61, 61]
    · have e : wordLen (c :: t) = 2 := by simp only [wordLen, if_neg h34, if_pos h2]
      rw [e]
      show IsWord ((c :: t).take 2)
      rw [h2]
      exact ⟨by simp, fun r => ⟨by simp [passLen], by simp [wordLen]⟩⟩
    · by_cases hs : 0 ≤ Lib.indexByte signL c
      · have e : wordLen (c :: t) = 1 := by simp only [wordLen, if_neg h34, if_neg h2, if_pos hs]
        rw [e]
        show IsWord ((c :: t).take 1)
        have hp := sign_no_pass c (sign_mem c hs)
        refine ⟨by simp, fun r => ⟨?_, ?_⟩⟩
        · simpa using passLen_none c (32 :: r) hp.1 hp.2
        · have h3 : ¬ (c :: 32 :: r).take 2 = [61, 61] := by simp
          show wordLen (c :: 32 :: r) = 1
          simp only [wordLen, if_neg h34, if_neg h3, if_pos hs]
      · have e : wordLen (c :: t) = runLen (c :: t) := by simp only [wordLen, if_neg h34, if_neg h2, if_neg hs]
        have hc : alnum c = true := runLen_pos c t (by omega)
        rw [e, Int.toNat_natCast]
        have hrl := runLen_le (c :: t)
        have hall : ∀ j, j < ((c :: t).take (runLen (c :: t))).length → alnum (((c :: t).take (runLen (c :: t)))[j]?.getD 0) = true := by
          have htw : (c :: t).take (runLen (c :: t)) = (c :: t).takeWhile alnum := by
            unfold runLen
            exact List.prefix_iff_eq_take.1 (List.takeWhile_prefix _) |>.symm
          rw [htw]
          intro j hj
          rw [List.getElem?_eq_getElem hj, Option.getD_some]
          exact List.all_eq_true.1 (List.all_takeWhile) _ (List.getElem_mem hj)
        have hlen : ((c :: t).take (runLen (c :: t))).length = runLen (c :: t) := by rw [List.length_take]; omega
        obtain ⟨m, hm⟩ : ∃ m, runLen (c :: t) = m + 1 := ⟨runLen (c :: t) - 1, by omega⟩
        have hcons : (c :: t).take (runLen (c :: t)) = c :: t.take m := by rw [hm, List.take_succ_cons]
        rw [hcons] at hall hlen ⊢
        have hp := alnum_no_pass c hc
        refine ⟨by simp, fun r => ⟨?_, ?_⟩⟩
        · simpa using passLen_none c (t.take m ++ 32 :: r) hp.1 hp.2
        · rw [List.cons_append, wordLen_run c _ hc, ← List.cons_append, runLen_append _ 32 r hall (by decide)]

theorem toks_words : ∀ (n : Nat) (l x : List UInt8), x ∈ (toks n l).1 → IsWord x
  | 0, l, x, h => by simp [toks] at h
  | n + 1, l, x, h => by
    cases l with
    | nil => simp [toks] at h
    | cons c t =>
      by_cases h0 : 0 < passLen (c :: t)
      · simp only [toks, if_neg (List.cons_ne_nil c t), if_pos h0] at h
        exact toks_words n _ x h
      · by_cases h1 : wordLen (c :: t) = 0
        · simp only [toks, if_neg (List.cons_ne_nil c t), if_neg h0, if_pos h1, List.not_mem_nil] at h
        · simp only [toks, if_neg (List.cons_ne_nil c t), if_neg h0, if_neg h1, List.mem_cons] at h
          rcases h with h | h
          · subst h; exact isWord_take c t h1
          · exact toks_words n _ x h
/-- words, a blank behind each -/
def joined : List (List UInt8) → List UInt8
  | [] => []
  | x :: L => x ++ 32 :: joined L
theorem tk_joined : ∀ (L : List (List UInt8)), (∀ x ∈ L, IsWord x) → tk (joined L) = (L, true)
  | [], _ => rfl
  | x :: L, h => by
    obtain ⟨hne, hx⟩ := h x (by simp)
    obtain ⟨hp, hw⟩ := hx (joined L)
    have ih := tk_joined L (fun y hy => h y (by simp [hy]))
    show tk (x ++ 32 :: joined L) = _
    have hpos : 0 < x.length := by cases x; exact absurd rfl hne; simp
    rw [tk_word _ (by cases x; exact absurd rfl hne; simp) (by omega) (by rw [hw]; omega), hw, Int.toNat_natCast, List.take_left, List.drop_left, tk_blank 32 _ (.inl rfl), ih]
theorem joined_snoc (L : List (List UInt8)) (x : List UInt8) : joined (L ++ [x]) = joined L ++ x ++ [32] := by
  induction L with
  | nil => simp [joined]
  | cons y L ih => simp [joined, ih]

/-- a line end and more behind a word changes nothing of it -/
theorem wordLen_line (c : UInt8) (t m : List UInt8) (hw : wordLen (c :: t) ≠ 0) : wordLen ((c :: t) ++ 10 :: m) = wordLen (c :: t) := by
  rw [List.cons_append]
  by_cases h34 : c = 34
  · subst h34
    by_cases hi : 0 ≤ Lib.indexByte t 34
    · simp [wordLen, indexByte_append t (10 :: m) 34 hi]
    · exact absurd (by simp [wordLen, hi]) hw
  · have h2 : (c :: (t ++ 10 :: m)).take 2 = [61, 61] ↔ (c :: t).take 2 = [61, 61] := by
      cases t with
      | nil => simp
      | cons b r => simp
    have h3 : runLen (c :: (t ++ 10 :: m)) = runLen (c :: t) := by rw [← List.cons_append]; exact runLen_line _ _ _ (by decide)
    simp only [wordLen, if_neg h34, h2, h3]
/-- the same of what says nothing; a note that goes on to the end ends there -/
theorem passLen_line (c : UInt8) (t m : List UInt8) : passLen ((c :: t) ++ 10 :: m) = passLen (c :: t) := by
  rw [List.cons_append]
  by_cases hb : c = 32 ∨ c = 9 ∨ c = 10
  · simp only [passLen, if_pos hb]
  · by_cases h35 : c = 35
    · simp only [passLen, if_neg hb, if_pos h35]
      rw [← List.cons_append]
      by_cases hi : 0 ≤ Lib.indexByte (c :: t) 10
      · rw [indexByte_append _ _ _ hi]; rw [if_pos hi, if_pos hi]
      · have hge := Lib.indexByte_ge (c :: t) 10
        have hbe := indexByte_behind (c :: t) m 10 (by omega)
        rw [hbe, if_pos (by omega), if_neg hi]
    · simp only [passLen, if_neg hb, if_neg h35]
theorem tk_line_fuel : ∀ (n : Nat) (l m : List UInt8), l.length ≤ n → (tk l).2 = true → tk (l ++ 10 :: m) = ((tk l).1 ++ (tk m).1, (tk m).2)
  | n, [], m, _, _ => by rw [List.nil_append, tk_blank 10 m (.inr (.inr rfl)), tk_nil]; rfl
  | 0, c :: t, m, h, _ => by simp at h
  | n + 1, c :: t, m, h, hok => by
    have hp := passLen_le (c :: t)
    have hw := wordLen_le (c :: t)
    have hpl := passLen_line c t m
    have hlen : (c :: t).length ≤ n + 1 := h
    by_cases h0 : 0 < passLen (c :: t)
    · have e1 := tk_pass (c :: t) (by simp) h0
      have e2 := tk_pass ((c :: t) ++ 10 :: m) (by simp) (by rw [hpl]; exact h0)
      rw [hpl, List.drop_append_of_le_length (by omega)] at e2
      rw [e1] at hok
      rw [e1, e2]
      exact tk_line_fuel n _ m (by rw [List.length_drop]; omega) hok
    · by_cases h1 : wordLen (c :: t) = 0
      · rw [tk_bad (c :: t) (by simp) h0 h1] at hok; cases hok
      · have hwl := wordLen_line c t m h1
        have e1 := tk_word (c :: t) (by simp) h0 h1
        have e2 := tk_word ((c :: t) ++ 10 :: m) (by simp) (by rw [hpl]; exact h0) (by rw [hwl]; exact h1)
        rw [hwl, List.drop_append_of_le_length (by omega), List.take_append_of_le_length (by omega)] at e2
        rw [e1] at hok
        have ih := tk_line_fuel n ((c :: t).drop (wordLen (c :: t)).toNat) m (by rw [List.length_drop]; omega) hok
        rw [e1, e2, ih]
        simp
theorem tk_line (l m : List UInt8) (h : (tk l).2 = true) : tk (l ++ 10 :: m) = ((tk l).1 ++ (tk m).1, (tk m).2) := tk_line_fuel l.length l m (Nat.le_refl _) h
theorem tk_note : tk [35, 32, 110, 111, 116, 101] = ([], true) := by decide
end Pl
end Go.Proofs.Yteadmjhmahjmdaa
