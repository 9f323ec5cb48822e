/- Plain: numbers written and read, and the value that a text tells. -/
import Derived.Lib.AtoiAll
import Derived.Lib.ItoaNum
import Derived.Test.YtbckbfjnifafaaaGreatDoorPl
namespace Go.Proofs.YtbckbfjnifafaaaGreatDoor
set_option linter.unusedVariables false
namespace Pl
open Lib
theorem dec_small {u : Nat} (h : u < 10) : decDigits u = [UInt8.ofNat (48 + u)] := by rw [decDigits, dif_pos h]
theorem dec_big {u : Nat} (h : ¬ u < 10) : decDigits u = decDigits (u / 10) ++ [UInt8.ofNat (48 + u % 10)] := by rw [decDigits, dif_neg h]
theorem fig_nat {d : Nat} (h : d < 10) : (UInt8.ofNat (48 + d)).toNat = 48 + d := by simp; omega
/-- a number from 1 on begins with a figure that is no nought -/
theorem dec_head (u : Nat) : ∃ c r, decDigits u = c :: r ∧ 48 ≤ c.toNat ∧ c.toNat ≤ 57 ∧ (1 ≤ u → 49 ≤ c.toNat) := by
  induction u using Nat.strongRecOn with
  | _ u ih =>
    by_cases h : u < 10
    · refine ⟨_, _, dec_small h, ?_, ?_, ?_⟩ <;> rw [fig_nat h] <;> omega
    · obtain ⟨c, r, h1, h2, h3, h4⟩ := ih (u / 10) (by omega)
      exact ⟨c, r ++ [UInt8.ofNat (48 + u % 10)], by rw [dec_big h, h1]; rfl, h2, h3, fun _ => h4 (by omega)⟩
theorem dec_len_le (k u : Nat) (h : u < 10 ^ (k + 1)) : (decDigits u).length ≤ k + 1 := by
  induction k generalizing u with
  | zero => rw [dec_small (by simpa using h)]; simp
  | succ k ih =>
    by_cases hs : u < 10
    · rw [dec_small hs]; simp
    · have := ih (u / 10) (by rw [Nat.pow_succ] at h; omega)
      rw [dec_big hs, List.length_append]
      simp
      omega
theorem parse_app : ∀ (l r : List UInt8) (acc v : Nat), parseUint10 acc l = .ok v → parseUint10 acc (l ++ r) = parseUint10 v r
  | [], r, acc, v, h => by
    simp only [parseUint10] at h
    injection h with h
    subst h
    rfl
  | c :: l, r, acc, v, h => by
    simp only [parseUint10, List.cons_append] at h ⊢
    split at h
    · next h1 =>
      rw [if_pos h1]
      split at h
      · cases h
      · next h2 =>
        rw [if_neg h2]
        split at h
        · cases h
        · next h3 =>
          rw [if_neg h3]
          exact parse_app l r _ v h
    · cases h
theorem parse_dec (u : Nat) (hu : u ≤ 1000000000) : parseUint10 0 (decDigits u) = .ok u := by
  induction u using Nat.strongRecOn with
  | _ u ih =>
    by_cases h : u < 10
    · rw [dec_small h]
      simp only [parseUint10, fig_nat h]
      rw [if_pos (by omega), if_neg (by omega), if_neg (by omega)]
      congr 1
      omega
    · rw [dec_big h, parse_app _ _ _ _ (ih (u / 10) (by omega) (by omega))]
      have hd : u % 10 < 10 := Nat.mod_lt _ (by omega)
      simp only [parseUint10, fig_nat hd]
      rw [if_pos (by omega), if_neg (by omega), if_neg (by omega)]
      congr 1
      omega
theorem atoi_itoa (n : Int) (h0 : -1000000000 ≤ n) (h1 : n ≤ 1000000000) : atoiAll (itoa n) = .ok n := by
  unfold itoa
  split
  · next hn =>
    obtain ⟨c, r, e, hc⟩ := dec_head n.natAbs
    have hp := parse_dec n.natAbs (by omega)
    have hm : parseMag (decDigits n.natAbs) = .ok n.natAbs := by unfold parseMag; rw [if_neg (by rw [e]; simp), hp]
    simp only [atoiAll]
    have h45 : (45 : UInt8).toNat = 45 := rfl
    simp only [h45, or_true, if_true, hm]
    rw [if_neg (by omega), if_neg (by omega)]
    simp
    omega
  · next hn =>
    obtain ⟨c, r, e, hc1, hc2, _⟩ := dec_head n.toNat
    have hp := parse_dec n.toNat (by omega)
    have hm : parseMag (decDigits n.toNat) = .ok n.toNat := by unfold parseMag; rw [if_neg (by rw [e]; simp), hp]
    rw [e] at hm ⊢
    simp only [atoiAll]
    rw [if_neg (by omega), hm]
    simp only
    rw [if_neg (by omega), if_neg (by omega), if_neg (by omega)]
    congr 1
    omega
/-- figures read, at most ten -/
def num10 : Nat → Nat → List UInt8 → Option Nat
  | acc, _, [] => some acc
  | acc, i, c :: r => if (48 ≤ c.toNat ∧ c.toNat ≤ 57) ∧ i < 10 then num10 (acc * 10 + (c.toNat - 48)) (i + 1) r else none
/-- the number that figures tell, else -1 -/
def numL (l : List UInt8) : Int :=
  match num10 0 0 l with
  | none => -1
  | some v => if l = [] ∨ (1 < l.length ∧ l.head? = some 48) then -1 else (v : Int)
theorem num10_app : ∀ (l r : List UInt8) (acc i v : Nat), num10 acc i l = some v → num10 acc i (l ++ r) = num10 v (i + l.length) r
  | [], r, acc, i, v, h => by
    simp only [num10, Option.some.injEq] at h
    subst h
    simp
  | c :: l, r, acc, i, v, h => by
    simp only [num10, List.cons_append] at h ⊢
    split at h
    · next h1 =>
      rw [if_pos h1, num10_app l r _ _ v h]
      congr 1
      simp
      omega
    · cases h
theorem num10_dec (u : Nat) (hl : (decDigits u).length ≤ 10) : num10 0 0 (decDigits u) = some u := by
  induction u using Nat.strongRecOn with
  | _ u ih =>
    by_cases h : u < 10
    · rw [dec_small h]
      simp only [num10, fig_nat h]
      rw [if_pos (by omega)]
      congr 1
      omega
    · rw [dec_big h, List.length_append] at hl
      simp at hl
      rw [dec_big h, num10_app _ _ _ _ _ (ih (u / 10) (by omega) (by omega))]
      have hd : u % 10 < 10 := Nat.mod_lt _ (by omega)
      simp only [num10, fig_nat hd]
      rw [if_pos (by omega)]
      congr 1
      omega
theorem numL_dec (u : Nat) (hu : u ≤ 1000000000) : numL (decDigits u) = (u : Int) := by
  have hl := dec_len_le 9 u (by omega)
  obtain ⟨c, r, e, h1, h2, h3⟩ := dec_head u
  unfold numL
  rw [num10_dec u hl]
  simp only
  rw [if_neg]
  rintro (h | ⟨ha, hb⟩)
  · rw [e] at h; cases h
  · have hu10 : ¬ u < 10 := by
      intro h
      rw [dec_small h] at ha
      simp at ha
    rw [e] at hb
    simp at hb
    have := h3 (by omega)
    rw [hb] at this
    simp at this
/-- a value's text -/
def putV (vk vn : Int) (vt : ByteArray) : List UInt8 := if vk = 1 then itoa vn else if vk = 2 then 34 :: (vt.data.toList ++ [34]) else [110, 111, 110, 101]
end Pl
end Go.Proofs.YtbckbfjnifafaaaGreatDoor
