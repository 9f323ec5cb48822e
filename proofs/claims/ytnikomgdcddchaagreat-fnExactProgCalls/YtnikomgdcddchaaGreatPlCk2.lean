/- Plain: the specification's way of looking at names tells the same. -/
import Derived.Test.YtnikomgdcddchaaGreatSco3
namespace Go.Proofs.YtnikomgdcddchaaGreat
open Go.RowKit
set_option linter.unusedVariables false
namespace Pl
theorem orr_congr {c x y : Int} (h : c = 0 → x = y) : orr c x = orr c y := by
  unfold orr
  split
  · next h0 => exact h h0
  · rfl
def needE (E : En) (N : List (List UInt8)) : Int := if N.any (fun x => !(look E x == 1)) = true then 3 else 0
def twiceE (E : En) (s : List UInt8) : Int := if look E s ≠ 0 then 2 else 0
theorem lackC_eq {V C : List (List UInt8)} {E : En} (h : Tells V C E) (N : List (List UInt8)) : lackC V N = needE E N := by
  unfold lackC needE lacks
  have : (fun x => !decide (x ∈ V)) = (fun x => !(look E x == 1)) := by
    funext x
    congr 1
    rw [Bool.eq_iff_iff]
    simp [(h x).1]
  rw [this]
theorem twiceC_eq {V C : List (List UInt8)} {E : En} (h : Tells V C E) (s : List UInt8) : twiceC V C s = twiceE E s := by
  unfold twiceC twiceE
  have h1 := h s
  by_cases h0 : look E s = 0
  · have a : ¬ s ∈ V := fun hv => by have := h1.1.1 hv; omega
    have b : ¬ s ∈ C := fun hv => by have := h1.2.1.1 hv; omega
    simp [a, b, h0]
  · have : s ∈ V ∨ s ∈ C := by
      rcases h1.2.2 with e | e | e
      · exact absurd e h0
      · exact .inl (h1.1.2 e)
      · exact .inr (h1.2.1.2 e)
    simp [this, h0]
theorem tells_var {V C : List (List UInt8)} {E : En} (h : Tells V C E) (s : List UInt8) (h0 : look E s = 0) : Tells (V ++ [s]) C ((s, 1) :: E) := by
  intro x
  have hx := h x
  by_cases e : s = x
  · subst e
    have hl : look ((s, 1) :: E) s = 1 := by simp [look]
    rw [hl]
    refine ⟨⟨fun _ => rfl, fun _ => by simp⟩, ⟨fun hc => ?_, fun hc => by omega⟩, .inr (.inl rfl)⟩
    have := hx.2.1.1 hc
    omega
  · have e' : ¬ x = s := fun h => e h.symm
    have hl : look ((s, 1) :: E) x = look E x := by simp [look, e]
    rw [hl]
    simp only [List.mem_append, List.mem_singleton, e', or_false]
    exact hx
theorem tells_call {V C : List (List UInt8)} {E : En} (h : Tells V C E) (s : List UInt8) (h0 : look E s = 0) : Tells V (C ++ [s]) ((s, 2) :: E) := by
  intro x
  have hx := h x
  by_cases e : s = x
  · subst e
    have hl : look ((s, 2) :: E) s = 2 := by simp [look]
    rw [hl]
    refine ⟨⟨fun hc => ?_, fun hc => by omega⟩, ⟨fun _ => rfl, fun _ => by simp⟩, .inr (.inr rfl)⟩
    have := hx.1.1 hc
    omega
  · have e' : ¬ x = s := fun h => e h.symm
    have hl : look ((s, 2) :: E) x = look E x := by simp [look, e]
    rw [hl]
    simp only [List.mem_append, List.mem_singleton, e', or_false]
    exact hx
theorem orr_eq_zero {a b : Int} (h : orr a b = 0) : a = 0 ∧ b = 0 := by
  unfold orr at h
  split at h
  · next h0 => exact ⟨h0, h⟩
  · next h0 => exact absurd h h0
theorem twiceE_zero {E : En} {s : List UInt8} (h : twiceE E s = 0) : look E s = 0 := by
  unfold twiceE at h
  split at h
  · omega
  · next h0 => exact Classical.not_not.1 h0
theorem len_nil {F : Ps} (h : F.len = 0) : F = .nil := by
  cases F with
  | nil => rfl
  | cons _ _ _ r => simp [Ps.len] at h
theorem chk_flat {sn : Sn} {b e : Ps} {E : En} (hb : b.len = 0) (he : e.len = 0) : chkS sn b e E = own sn E := by
  rw [len_nil hb, len_nil he]
  simp [chkS, chkF, orr_zero]
/-- own, by the kind -/
theorem own_make {k : Int} {nm wh : ByteArray} {ex : Nd} {ek : Fo} {E : En} (h2 : k ≠ 2) (h7 : k ≠ 7) (hm : mk k ≠ 0) : own ⟨k, nm, wh, ex, ek⟩ E = orr (needE E (namesN ex ek)) (twiceE E nm.data.toList) := by
  unfold own needE twiceE orr
  by_cases ha : (namesN ex ek).any (fun x => !(look E x == 1)) = true
  · simp [ha]
  · simp [ha, h2, h7, hm]
theorem own_bare {k : Int} {nm wh : ByteArray} {ex : Nd} {ek : Fo} {E : En} (h2 : k ≠ 2) (h7 : k ≠ 7) (hm : mk k = 0) : own ⟨k, nm, wh, ex, ek⟩ E = needE E (namesN ex ek) := by
  unfold own needE
  by_cases ha : (namesN ex ek).any (fun x => !(look E x == 1)) = true
  · simp [ha]
  · simp [ha, h2, h7, hm]
theorem own_set {nm wh : ByteArray} {ex : Nd} {ek : Fo} {E : En} : own ⟨2, nm, wh, ex, ek⟩ E = orr (needE E (namesN ex ek)) (if look E nm.data.toList = 1 then 0 else 3) := by
  unfold own needE orr
  by_cases ha : (namesN ex ek).any (fun x => !(look E x == 1)) = true
  · simp [ha]
  · by_cases hl : look E nm.data.toList = 1 <;> simp [ha, hl, mk]
theorem own_join {nm wh : ByteArray} {ex : Nd} {ek : Fo} {E : En} (hN : namesN ex ek = []) : own ⟨7, nm, wh, ex, ek⟩ E = orr (if look E wh.data.toList = 2 then 0 else 4) (twiceE E nm.data.toList) := by
  unfold own orr twiceE
  by_cases hl : look E wh.data.toList = 2 <;> simp [hN, hl, mk]
theorem own_wait {nm wh : ByteArray} {ex : Nd} {ek : Fo} {E : En} (hN : namesN ex ek = []) : own ⟨9, nm, wh, ex, ek⟩ E = twiceE E nm.data.toList := by
  unfold own twiceE
  simp [hN, mk]
theorem names_none {ex : Nd} {ek : Fo} (h : noneB ex ek = true) : namesN ex ek = [] := by
  simp only [noneB, Bool.and_eq_true, beq_iff_eq] at h
  have hk : ek = .nil := by
    cases ek with
    | nil => rfl
    | cons _ _ r => simp [Fo.len] at h
  subst hk
  simp [namesN, ownNm, namesF, h.1]
end Pl
end Go.Proofs.YtnikomgdcddchaaGreat
