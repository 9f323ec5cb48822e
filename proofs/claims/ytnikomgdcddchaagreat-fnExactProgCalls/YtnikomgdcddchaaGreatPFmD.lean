/- Plain: whether steps have their form. -/
import Derived.Test.YtnikomgdcddchaaGreatPBx
import Derived.Test.YtnikomgdcddchaaGreatOk1f
namespace Go.Proofs.YtnikomgdcddchaaGreat
open Go.RowKit
set_option linter.unusedVariables false
namespace Pl
/-- no expression at all -/
def noneB (ex : Nd) (ek : Fo) : Bool := (ex.k == 0) && (ex.nm.toList.isEmpty && ((ek.len == 0) && ((ex.vk == 0) && ((ex.vn == 0) && ex.vt.toList.isEmpty))))
/-- a step's own form, by what its steps within are -/
def formBy (sn : Sn) (bl el : Nat) (fb fe : Bool) : Bool :=
  if sn.k = 1 ∨ sn.k = 2 then nameB sn.nm && (sn.wh.toList.isEmpty && (okN sn.ex sn.ek 5 && ((bl : Int) + (el : Int) == 0)))
  else if sn.k = 3 then sn.nm.toList.isEmpty && (sn.wh.toList.isEmpty && (okN sn.ex sn.ek 5 && (fb && ((el == 0) || fe))))
  else if sn.k = 4 then sn.nm.toList.isEmpty && (sn.wh.toList.isEmpty && (okN sn.ex sn.ek 5 && (fb && (el == 0))))
  else if sn.k = 5 ∨ sn.k = 6 ∨ sn.k = 10 then nameB sn.nm && (nameB sn.wh && (okN sn.ex sn.ek 5 && ((bl : Int) + (el : Int) == 0)))
  else if sn.k = 7 ∨ sn.k = 9 then nameB sn.nm && (nameB sn.wh && (noneB sn.ex sn.ek && ((bl : Int) + (el : Int) == 0)))
  else if sn.k = 8 ∨ sn.k = 11 ∨ sn.k = 12 ∨ sn.k = 13 then sn.nm.toList.isEmpty && (sn.wh.toList.isEmpty && (okN sn.ex sn.ek 5 && ((bl : Int) + (el : Int) == 0)))
  else false
def formF : Ps → Nat → Bool
  | .nil, _ => true
  | .cons sn b e r, d => formBy sn b.len e.len (decide (1 ≤ d - 1) && ((decide (1 ≤ b.len) && decide (b.len ≤ 8)) && formF b (d - 1))) (decide (1 ≤ d - 1) && ((decide (1 ≤ e.len) && decide (e.len ≤ 8)) && formF e (d - 1))) && formF r d
def bodyB (F : Ps) (d : Nat) : Bool := decide (1 ≤ d) && ((decide (1 ≤ F.len) && decide (F.len ≤ 8)) && formF F d)
def formS (sn : Sn) (b e : Ps) (d : Nat) : Bool := formBy sn b.len e.len (bodyB b (d - 1)) (bodyB e (d - 1))
theorem formF_all : ∀ (F : Ps) (d : Nat), (∀ i sn b e, F.get i = some (sn, b, e) → formS sn b e d = true) → formF F d = true
  | .nil, _, _ => rfl
  | .cons sn b e r, d, h => by
    have h1 := h 0 sn b e rfl
    have h2 := formF_all r d (fun i sn' b' e' hk => h (i + 1) sn' b' e' hk)
    unfold formS bodyB at h1
    simp only [formF, h1, h2, Bool.and_self]
theorem formF_not : ∀ (F : Ps) (d i : Nat) (sn : Sn) (b e : Ps), F.get i = some (sn, b, e) → formS sn b e d = false → formF F d = false
  | .nil, _, i, sn, b, e, h, _ => by simp [Ps.get] at h
  | .cons sn' b' e' r, d, 0, sn, b, e, h, h0 => by
    simp only [Ps.get, Option.some.injEq, Prod.mk.injEq] at h
    obtain ⟨rfl, rfl, rfl⟩ := h
    unfold formS bodyB at h0
    simp only [formF, h0, Bool.false_and]
  | .cons sn' b' e' r, d, i + 1, sn, b, e, h, h0 => by
    have := formF_not r d i sn b e h h0
    simp only [formF, this, Bool.and_false]
end Pl
def FmP (f : FuncId) (F : Ps) (d : Nat) : Prop := ∀ (v : Value) (w : World), F.Wf → F.len ≤ 1048576 → F.Sm → PRow 0 w F v → Calls Tryz.prog f #[v, .int .i64 d] w fun e w' => e = .returned (.bool (Pl.bodyB F d)) ∧ Below w.heap.size w w'
end Go.Proofs.YtnikomgdcddchaaGreat
