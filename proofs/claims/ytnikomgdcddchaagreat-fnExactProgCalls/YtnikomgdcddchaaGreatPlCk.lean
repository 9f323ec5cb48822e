/- Plain: the names of steps, and what is wrong with them. -/
import Derived.Test.YtnikomgdcddchaaGreatPFmD
import Derived.Test.YtnikomgdcddchaaGreatPlNm
namespace Go.Proofs.YtnikomgdcddchaaGreat
open Go.RowKit
set_option linter.unusedVariables false
namespace Pl
/-- names that are there, the last first, each with what it is for: 1 a value, 2 a call -/
abbrev En := List (List UInt8 × Int)
def look : En → List UInt8 → Int
  | [], _ => 0
  | (x, u) :: E, s => if x = s then u else look E s
/-- what a kind makes a name for -/
def mk (k : Int) : Int := if k = 1 ∨ k = 5 ∨ k = 7 ∨ k = 9 ∨ k = 10 then 1 else if k = 6 then 2 else 0
def ext (sn : Sn) (E : En) : En := if mk sn.k = 0 then E else (sn.nm.data.toList, mk sn.k) :: E
/-- what is wrong with a step itself -/
def own (sn : Sn) (E : En) : Int :=
  if (namesN sn.ex sn.ek).any (fun x => !(look E x == 1)) = true then 3
  else if sn.k = 2 ∧ look E sn.nm.data.toList ≠ 1 then 3
  else if sn.k = 7 ∧ look E sn.wh.data.toList ≠ 2 then 4
  else if mk sn.k ≠ 0 ∧ look E sn.nm.data.toList ≠ 0 then 2
  else 0
def orr (a b : Int) : Int := if a = 0 then b else a
def chkF : Ps → En → Int
  | .nil, _ => 0
  | .cons sn b e r, E => orr (orr (own sn E) (orr (chkF b (ext sn E)) (chkF e (ext sn E)))) (chkF r (ext sn E))
def chkS (sn : Sn) (b e : Ps) (E : En) : Int := orr (own sn E) (orr (chkF b (ext sn E)) (chkF e (ext sn E)))
theorem chkF_cons (sn : Sn) (b e r : Ps) (E : En) : chkF (.cons sn b e r) E = orr (chkS sn b e E) (chkF r (ext sn E)) := rfl
theorem orr_zero (a : Int) : orr a 0 = a := by unfold orr; split <;> simp_all
theorem orr_left {a b : Int} (h : a ≠ 0) : orr a b = a := by simp [orr, h]
theorem orr_right (b : Int) : orr 0 b = b := rfl
theorem orr_assoc (a b c : Int) : orr (orr a b) c = orr a (orr b c) := by unfold orr; split <;> simp_all
/-- the names behind the first i steps, and what is wrong with these -/
def extTo : Ps → Nat → En → En
  | .nil, _, E => E
  | .cons _ _ _ _, 0, E => E
  | .cons sn _ _ r, i + 1, E => extTo r i (ext sn E)
def chkTo : Ps → Nat → En → Int
  | .nil, _, _ => 0
  | .cons _ _ _ _, 0, _ => 0
  | .cons sn b e r, i + 1, E => orr (chkS sn b e E) (chkTo r i (ext sn E))
theorem extTo_zero (F : Ps) (E : En) : extTo F 0 E = E := by cases F <;> rfl
theorem chkTo_zero (F : Ps) (E : En) : chkTo F 0 E = 0 := by cases F <;> rfl
theorem extTo_succ : ∀ (F : Ps) (i : Nat) (E : En) (sn : Sn) (b e : Ps), F.get i = some (sn, b, e) → extTo F (i + 1) E = ext sn (extTo F i E)
  | .nil, i, E, sn, b, e, h => by simp [Ps.get] at h
  | .cons sn' b' e' r, 0, E, sn, b, e, h => by
    simp only [Ps.get, Option.some.injEq, Prod.mk.injEq] at h
    obtain ⟨rfl, rfl, rfl⟩ := h
    simp [extTo, extTo_zero]
  | .cons sn' b' e' r, i + 1, E, sn, b, e, h => extTo_succ r i (ext sn' E) sn b e h
theorem chkTo_succ : ∀ (F : Ps) (i : Nat) (E : En) (sn : Sn) (b e : Ps), F.get i = some (sn, b, e) → chkTo F (i + 1) E = orr (chkTo F i E) (chkS sn b e (extTo F i E))
  | .nil, i, E, sn, b, e, h => by simp [Ps.get] at h
  | .cons sn' b' e' r, 0, E, sn, b, e, h => by
    simp only [Ps.get, Option.some.injEq, Prod.mk.injEq] at h
    obtain ⟨rfl, rfl, rfl⟩ := h
    simp [chkTo, chkTo_zero, extTo, orr_zero, orr_right]
  | .cons sn' b' e' r, i + 1, E, sn, b, e, h => by
    have := chkTo_succ r i (ext sn' E) sn b e h
    simp only [chkTo, extTo] at this ⊢
    rw [this, orr_assoc]
theorem chkTo_all : ∀ (F : Ps) (E : En), chkTo F F.len E = chkF F E
  | .nil, E => rfl
  | .cons sn b e r, E => by simp only [Ps.len, chkTo, chkTo_all r, chkF_cons]
theorem chkTo_stop : ∀ (F : Ps) (i : Nat) (E : En), chkTo F i E ≠ 0 → chkF F E = chkTo F i E
  | .nil, i, E, h => rfl
  | .cons sn b e r, 0, E, h => by simp [chkTo] at h
  | .cons sn b e r, i + 1, E, h => by
    simp only [chkTo, chkF_cons] at h ⊢
    unfold orr at h ⊢
    split
    · next h0 =>
      rw [if_pos h0] at h
      exact chkTo_stop r i _ h
    · rfl
/-- lists of names for values and for calls that tell the same -/
def Tells (V C : List (List UInt8)) (E : En) : Prop := ∀ x, (x ∈ V ↔ look E x = 1) ∧ (x ∈ C ↔ look E x = 2) ∧ (look E x = 0 ∨ look E x = 1 ∨ look E x = 2)
end Pl
end Go.Proofs.YtnikomgdcddchaaGreat
