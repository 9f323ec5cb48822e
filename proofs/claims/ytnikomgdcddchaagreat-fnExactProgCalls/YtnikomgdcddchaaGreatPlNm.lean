/- Plain: the names of an expression, in the order in which they stand. -/
import Derived.Test.YtnikomgdcddchaaGreatOk1f
import Derived.Test.YtnikomgdcddchaaGreatPlS
namespace Go.Proofs.YtnikomgdcddchaaGreat
open Go.RowKit
set_option linter.unusedVariables false
namespace Pl
def ownNm (nd : Nd) : List (List UInt8) := if nd.k = 2 then [nd.nm.data.toList] else []
def namesF : Fo → List (List UInt8)
  | .nil => []
  | .cons nd k r => (ownNm nd ++ namesF k) ++ namesF r
def namesN (nd : Nd) (k : Fo) : List (List UInt8) := ownNm nd ++ namesF k
/-- of the first i nodes -/
def namesTo : Fo → Nat → List (List UInt8)
  | .nil, _ => []
  | .cons _ _ _, 0 => []
  | .cons nd k r, i + 1 => namesN nd k ++ namesTo r i
theorem namesTo_zero (F : Fo) : namesTo F 0 = [] := by cases F <;> rfl
theorem namesTo_succ : ∀ (F : Fo) (i : Nat) (nd : Nd) (k : Fo), F.get i = some (nd, k) → namesTo F (i + 1) = namesTo F i ++ namesN nd k
  | .nil, i, nd, k, h => by simp [Fo.get] at h
  | .cons nd' k' r, 0, nd, k, h => by
    simp only [Fo.get, Option.some.injEq, Prod.mk.injEq] at h
    obtain ⟨rfl, rfl⟩ := h
    simp [namesTo, namesTo_zero]
  | .cons nd' k' r, i + 1, nd, k, h => by
    have := namesTo_succ r i nd k h
    simp only [namesTo] at this ⊢
    rw [this, List.append_assoc]
theorem namesTo_all : ∀ (F : Fo), namesTo F F.len = namesF F
  | .nil => rfl
  | .cons nd k r => by simp only [Fo.len, namesTo, namesF, namesTo_all r, namesN]
theorem namesTo_le : ∀ (F : Fo) (i : Nat), (namesTo F i).length ≤ (namesF F).length
  | .nil, i => by simp [namesTo, namesF]
  | .cons nd k r, 0 => by simp [namesTo]
  | .cons nd k r, i + 1 => by
    have := namesTo_le r i
    simp only [namesTo, namesF, namesN, List.length_append] at this ⊢
    omega
theorem names_part {F : Fo} {i : Nat} {nd : Nd} {k : Fo} (h : F.get i = some (nd, k)) : (namesTo F i).length + (namesN nd k).length ≤ (namesF F).length := by
  have h1 := namesTo_succ F i nd k h
  have h2 := namesTo_le F (i + 1)
  rw [h1, List.length_append] at h2
  exact h2
theorem ownNm_le (nd : Nd) : (ownNm nd).length ≤ 1 := by unfold ownNm; split <;> simp
theorem names_le_nodes : ∀ (F : Fo), (namesF F).length ≤ F.nodes
  | .nil => by simp [namesF]
  | .cons nd k r => by
    have h1 := names_le_nodes k
    have h2 := names_le_nodes r
    have h3 := ownNm_le nd
    simp only [namesF, Fo.nodes, List.length_append]
    omega
theorem okF_nodes : ∀ (F : Fo) (d : Nat), okF F d = true → F.nodes ≤ F.len * (2 ^ d - 1)
  | .nil, d, _ => by simp [Fo.nodes]
  | .cons nd k r, d, h => by
    simp only [okF, Bool.and_eq_true, decide_eq_true_eq, beq_iff_eq] at h
    obtain ⟨⟨⟨hd, ha, _⟩, hk⟩, hr⟩ := h
    have h1 := okF_nodes k (d - 1) hk
    have h2 := okF_nodes r d hr
    have h3 := arity_lt nd.k
    have h4 : k.len ≤ 2 := by omega
    obtain ⟨e, rfl⟩ : ∃ e, d = e + 1 := ⟨d - 1, by omega⟩
    rw [Nat.add_sub_cancel] at h1
    have h5 : k.len * (2 ^ e - 1) ≤ 2 * (2 ^ e - 1) := Nat.mul_le_mul_right _ h4
    have h6 : 2 ^ (e + 1) = 2 * 2 ^ e := by rw [Nat.pow_succ]; omega
    have h7 : 1 ≤ 2 ^ e := Nat.one_le_two_pow
    simp only [Fo.nodes, Fo.len, Nat.add_mul, Nat.one_mul]
    omega
theorem okN_nodes {nd : Nd} {k : Fo} {d : Nat} (hd : d ≤ 5) (h : okN nd k d = true) : k.nodes ≤ 62 := by
  simp only [okN, Bool.and_eq_true, decide_eq_true_eq, beq_iff_eq] at h
  obtain ⟨⟨hd1, ha, _⟩, hk⟩ := h
  have h1 := okF_nodes k (d - 1) hk
  have h3 := arity_lt nd.k
  have h4 : k.len ≤ 2 := by omega
  have h5 : k.len * (2 ^ (d - 1) - 1) ≤ 2 * (2 ^ (d - 1) - 1) := Nat.mul_le_mul_right _ h4
  have h6 : 2 ^ (d - 1) ≤ 2 ^ 5 := Nat.pow_le_pow_right (by omega) (by omega)
  omega
/-- a name has no parts, and is a short text -/
def Vl : Fo → Prop
  | .nil => True
  | .cons nd k r => (nd.k = 2 → k.len = 0 ∧ nd.nm.size ≤ 10) ∧ Vl k ∧ Vl r
theorem Vl.get : ∀ {F : Fo} (h : Vl F) {i : Nat} {nd : Nd} {k : Fo}, F.get i = some (nd, k) → (nd.k = 2 → k.len = 0 ∧ nd.nm.size ≤ 10) ∧ Vl k
  | .nil, _, i, nd, k, h => by simp [Fo.get] at h
  | .cons nd' k' r, hs, 0, nd, k, h => by
    simp only [Fo.get, Option.some.injEq, Prod.mk.injEq] at h
    obtain ⟨rfl, rfl⟩ := h
    exact ⟨hs.1, hs.2.1⟩
  | .cons nd' k' r, hs, i + 1, nd, k, h => Vl.get (F := r) hs.2.2 h
theorem nameB_size {s : ByteArray} (h : nameB s = true) : s.size ≤ 10 := by
  simp only [nameB, Bool.and_eq_true, decide_eq_true_eq] at h
  exact h.2.2.1
theorem var_ok {nd : Nd} {k : Fo} (ha : (k.len : Int) = arity nd.k) (hn : nmB nd = true) : nd.k = 2 → k.len = 0 ∧ nd.nm.size ≤ 10 := by
  intro h2
  simp only [nmB, h2, if_true] at hn
  refine ⟨?_, nameB_size hn⟩
  rw [h2] at ha
  simp [arity] at ha
  omega
theorem okF_vl : ∀ (F : Fo) (d : Nat), okF F d = true → Vl F
  | .nil, _, _ => trivial
  | .cons nd k r, d, h => by
    simp only [okF, Bool.and_eq_true, decide_eq_true_eq, beq_iff_eq] at h
    obtain ⟨⟨⟨hd, ha, _, hn⟩, hk⟩, hr⟩ := h
    exact ⟨var_ok ha hn, okF_vl k _ hk, okF_vl r _ hr⟩
theorem okN_vl {nd : Nd} {k : Fo} {d : Nat} (h : okN nd k d = true) : (nd.k = 2 → k.len = 0 ∧ nd.nm.size ≤ 10) ∧ Vl k := by
  simp only [okN, Bool.and_eq_true, decide_eq_true_eq, beq_iff_eq] at h
  obtain ⟨⟨_, ha, _, hn⟩, hk⟩ := h
  exact ⟨var_ok ha hn, okF_vl k _ hk⟩
theorem ins_len (s : List UInt8) : ∀ L, (ins s L).length ≤ L.length + 1
  | [] => by simp [ins]
  | x :: l => by
    have := ins_len s l
    unfold ins
    split
    · simp; omega
    · split <;> simp
theorem insAll_len : ∀ X L, (insAll X L).length ≤ X.length + L.length
  | [], L => by simp [insAll]
  | x :: X, L => by
    have h1 := insAll_len X (ins x L)
    have h2 := ins_len x L
    simp only [insAll, List.length_cons]
    omega
end Pl
end Go.Proofs.YtnikomgdcddchaaGreat
