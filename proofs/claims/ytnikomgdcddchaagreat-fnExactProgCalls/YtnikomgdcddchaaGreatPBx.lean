/- Steps: how many lie within the first ones; a step in a box. -/
import Derived.Test.YtnikomgdcddchaaGreatPTree
namespace Go.Proofs.YtnikomgdcddchaaGreat
open Go.RowKit
set_option linter.unusedVariables false
namespace Ps
/-- the steps within the first i -/
def kn : Ps → Nat → Nat
  | nil, _ => 0
  | cons _ _ _ _, 0 => 0
  | cons _ b e r, i + 1 => b.nodes + e.nodes + r.kn i
theorem kn_zero (F : Ps) : F.kn 0 = 0 := by cases F <;> rfl
theorem kn_succ : ∀ (F : Ps) (i : Nat) (sn : Sn) (b e : Ps), F.get i = some (sn, b, e) → F.kn (i + 1) = F.kn i + (b.nodes + e.nodes)
  | nil, i, sn, b, e, h => by simp [get] at h
  | cons sn' b' e' r, 0, sn, b, e, h => by
    simp only [get, Option.some.injEq, Prod.mk.injEq] at h
    obtain ⟨rfl, rfl, rfl⟩ := h
    simp [kn, kn_zero]
  | cons sn' b' e' r, i + 1, sn, b, e, h => by
    have := kn_succ r i sn b e h
    simp only [kn] at this ⊢
    omega
theorem kn_all : ∀ (F : Ps), F.kn F.len + F.len = F.nodes
  | nil => rfl
  | cons sn b e r => by
    have := kn_all r
    simp only [kn, len, nodes]
    omega
theorem kn_le : ∀ (F : Ps) (i : Nat), F.kn i ≤ F.kn F.len
  | nil, i => Nat.le_refl _
  | cons sn b e r, 0 => by simp [kn]
  | cons sn b e r, i + 1 => by
    have := kn_le r i
    simp only [kn, len]
    omega
end Ps
/-- the eleven cells of a boxed step, later too -/
def Box11 (b : Nat) (sn : Sn) (ve vb vl : Value) (W : World) : Prop :=
  b < W.heap.size ∧ StC W b 0 sn ∧ W.cell? ⟨b, 8, none⟩ = some ve ∧ W.cell? ⟨b, 9, none⟩ = some vb ∧ W.cell? ⟨b, 10, none⟩ = some vl
theorem Box11.mk {sn : Sn} {ve vb vl : Value} {T : TypeId} (w : World) : Box11 w.heap.size sn ve vb vl (w.alloc (.cells #[.int .i64 sn.k, .string sn.nm, .string sn.wh, .int .i64 sn.ex.k, .int .i64 sn.ex.vk, .int .i64 sn.ex.vn, .string sn.ex.vt, .string sn.ex.nm, ve, vb, vl] T)) := by
  refine ⟨by simp, ⟨?_, ?_, ?_, ?_, ?_, ?_, ?_, ?_⟩, ?_, ?_, ?_⟩ <;> simp
theorem Box11.later {b : Nat} {sn : Sn} {ve vb vl : Value} {W W1 : World} (h : Box11 b sn ve vb vl W) (hB : Below W.heap.size W W1) : Box11 b sn ve vb vl W1 := by
  obtain ⟨hb, hc, h8, h9, h10⟩ := h
  have C : ∀ o, W1.cell? ⟨b, o, none⟩ = W.cell? ⟨b, o, none⟩ := fun o => hB.cell (p := ⟨b, o, none⟩) hb
  exact ⟨by have := hB.size; omega, hc.later hB hb, (C _).trans h8, (C _).trans h9, (C _).trans h10⟩

end Go.Proofs.YtnikomgdcddchaaGreat
