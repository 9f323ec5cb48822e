/- Plain: what steps ask for by name, in the order in which they stand. -/
import Derived.Test.YtnikomgdcddchaaGreatPFmD
import Derived.Test.YtnikomgdcddchaaGreatPlNm
import Derived.Test.YtnikomgdcddchaaGreatPlT
namespace Go.Proofs.YtnikomgdcddchaaGreat
open Go.RowKit
set_option linter.unusedVariables false
namespace Pl
def ownWh (sn : Sn) : List (List UInt8) := if sn.wh.toList = [] ∨ sn.k = 7 then [] else [sn.wh.data.toList]
def callsF : Ps → List (List UInt8)
  | .nil => []
  | .cons sn b e r => (ownWh sn ++ (callsF b ++ callsF e)) ++ callsF r
def callsS (sn : Sn) (b e : Ps) : List (List UInt8) := ownWh sn ++ (callsF b ++ callsF e)
/-- of the first i steps -/
def callsTo : Ps → Nat → List (List UInt8)
  | .nil, _ => []
  | .cons _ _ _ _, 0 => []
  | .cons sn b e r, i + 1 => callsS sn b e ++ callsTo r i
theorem callsTo_zero (F : Ps) : callsTo F 0 = [] := by cases F <;> rfl
theorem callsTo_succ : ∀ (F : Ps) (i : Nat) (sn : Sn) (b e : Ps), F.get i = some (sn, b, e) → callsTo F (i + 1) = callsTo F i ++ callsS sn b e
  | .nil, i, sn, b, e, h => by simp [Ps.get] at h
  | .cons sn' b' e' r, 0, sn, b, e, h => by
    simp only [Ps.get, Option.some.injEq, Prod.mk.injEq] at h
    obtain ⟨rfl, rfl, rfl⟩ := h
    simp [callsTo, callsTo_zero]
  | .cons sn' b' e' r, i + 1, sn, b, e, h => by
    have := callsTo_succ r i sn b e h
    simp only [callsTo] at this ⊢
    rw [this, List.append_assoc]
theorem callsTo_all : ∀ (F : Ps), callsTo F F.len = callsF F
  | .nil => rfl
  | .cons sn b e r => by simp only [Ps.len, callsTo, callsF, callsTo_all r, callsS]
theorem callsTo_le : ∀ (F : Ps) (i : Nat), (callsTo F i).length ≤ (callsF F).length
  | .nil, i => by simp [callsTo, callsF]
  | .cons sn b e r, 0 => by simp [callsTo]
  | .cons sn b e r, i + 1 => by
    have := callsTo_le r i
    simp only [callsTo, callsF, callsS, List.length_append] at this ⊢
    omega
theorem calls_part {F : Ps} {i : Nat} {sn : Sn} {b e : Ps} (h : F.get i = some (sn, b, e)) : (callsTo F i).length + ((ownWh sn).length + ((callsF b).length + (callsF e).length)) ≤ (callsF F).length := by
  have h1 := callsTo_succ F i sn b e h
  have h2 := callsTo_le F (i + 1)
  simp only [h1, List.length_append, callsS] at h2
  omega
theorem ownWh_le (sn : Sn) : (ownWh sn).length ≤ 1 := by unfold ownWh; split <;> simp
theorem calls_le_nodes : ∀ (F : Ps), (callsF F).length ≤ F.nodes
  | .nil => by simp [callsF]
  | .cons sn b e r => by
    have h1 := calls_le_nodes b
    have h2 := calls_le_nodes e
    have h3 := calls_le_nodes r
    have h4 := ownWh_le sn
    simp only [callsF, Ps.nodes, List.length_append]
    omega
/-- What of each step is a short text -/
def Wh10 : Ps → Prop
  | .nil => True
  | .cons sn b e r => sn.wh.size ≤ 10 ∧ Wh10 b ∧ Wh10 e ∧ Wh10 r
theorem Wh10.get : ∀ {F : Ps} (h : Wh10 F) {i : Nat} {sn : Sn} {b e : Ps}, F.get i = some (sn, b, e) → sn.wh.size ≤ 10 ∧ Wh10 b ∧ Wh10 e
  | .nil, _, i, sn, b, e, h => by simp [Ps.get] at h
  | .cons sn' b' e' r, hs, 0, sn, b, e, h => by
    simp only [Ps.get, Option.some.injEq, Prod.mk.injEq] at h
    obtain ⟨rfl, rfl, rfl⟩ := h
    exact ⟨hs.1, hs.2.1, hs.2.2.1⟩
  | .cons sn' b' e' r, hs, i + 1, sn, b, e, h => Wh10.get (F := r) hs.2.2.2 h
theorem wh10_nil : ∀ (F : Ps), F.len = 0 → Wh10 F
  | .nil, _ => trivial
  | .cons _ _ _ r, h => by simp [Ps.len] at h
theorem empty_size {s : ByteArray} (h : s.toList.isEmpty = true) : s.size ≤ 10 := by
  have h1 : s.toList = [] := by simpa using h
  have h2 : s.toList = s.data.toList := Lib.toList_data s
  rw [h2] at h1
  have : s.data.size = 0 := by rw [← Array.length_toList, h1]; rfl
  show s.data.size ≤ 10
  omega
theorem formF_wh : ∀ (F : Ps) (d : Nat), formF F d = true → Wh10 F
  | .nil, _, _ => trivial
  | .cons sn b e r, d, h => by
    simp only [formF, Bool.and_eq_true] at h
    obtain ⟨h1, h2⟩ := h
    have hr := formF_wh r d h2
    have Hb := formF_wh b (d - 1)
    have He := formF_wh e (d - 1)
    have Zb := wh10_nil b
    have Ze := wh10_nil e
    unfold formBy at h1
    repeat' split at h1
    all_goals try simp only [Bool.and_eq_true, Bool.or_eq_true, beq_iff_eq, decide_eq_true_eq] at h1
    · exact ⟨empty_size h1.2.1, Zb (by omega), Ze (by omega), hr⟩
    · refine ⟨empty_size h1.2.1, Hb h1.2.2.2.1.2.2, ?_, hr⟩
      rcases h1.2.2.2.2 with h | h
      · exact Ze h
      · exact He h.2.2
    · exact ⟨empty_size h1.2.1, Hb h1.2.2.2.1.2.2, Ze h1.2.2.2.2, hr⟩
    · exact ⟨nameB_size h1.2.1, Zb (by omega), Ze (by omega), hr⟩
    · exact ⟨nameB_size h1.2.1, Zb (by omega), Ze (by omega), hr⟩
    · exact ⟨empty_size h1.2.1, Zb (by omega), Ze (by omega), hr⟩
    · cases h1
theorem bodyB_wh {F : Ps} {d : Nat} (h : bodyB F d = true) : Wh10 F := by
  simp only [bodyB, Bool.and_eq_true] at h
  exact formF_wh F d h.2.2
end Pl
end Go.Proofs.YtnikomgdcddchaaGreat
