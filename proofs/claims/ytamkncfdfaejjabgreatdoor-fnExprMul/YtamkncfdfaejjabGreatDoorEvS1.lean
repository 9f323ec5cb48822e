/- What an expression is, as the specification has it: values, names. -/
import Derived.Test.YtamkncfdfaejjabGreatDoorPlEv2
namespace Go.Proofs.YtamkncfdfaejjabGreatDoor
open Go.RowKit
set_option linter.unusedVariables false
set_option linter.unusedSimpArgs false
set_option maxHeartbeats 400000 in
theorem l2Bool_any (b : Bool) (w : World) :
    Calls Tryz.prog 34 #[.bool b] w fun e w' => e = .returned (vaV (Pl.truthA b)) ∧ Below w.heap.size w w' := by
  cases b
  all_goals
    go_enter Tryz.func34, Tryz.ntmps34
    go_wp2
    refine bodyPost_ret (v := vaV (Pl.truthA _)) (by simp [results, Tryz.results34, go_sem, Pl.truthA]) rfl ⟨rfl, ?_⟩
    exact (Below.refl _ _).alloc (Nat.le_refl _) _
set_option maxHeartbeats 400000 in
theorem l2True_any (v : Va) (w : World) :
    Calls Tryz.prog 35 #[vaV v] w fun e w' => e = .returned (.bool (Pl.countsA v)) ∧ Below w.heap.size w w' := by
  obtain ⟨k, n, t⟩ := v
  unfold Pl.countsA
  cases q1 : (n == 0) <;> cases q2 : t.toList.isEmpty
  all_goals
    have q3 : (n != 0) = !(n == 0) := rfl
    rw [q1] at q3
    go_enter Tryz.func35, Tryz.ntmps35
    go_wp2
    go_ret
    exact ⟨by simp [q1, q2], (Below.refl _ _).alloc (Nat.le_refl _) _⟩
/-- where a name stands -/
def VarIs (l : List Pl.Pr) (x : ByteArray) (r : Int) : Prop :=
  (r = -1 ∧ ∀ p ∈ l, (p.nm.toList == x.toList) = false) ∨ (∃ (i : Nat) (p : Pl.Pr), r = i ∧ l[i]? = some p ∧ (p.nm.toList == x.toList) = true ∧ ∀ j q, j < i → l[j]? = some q → (q.nm.toList == x.toList) = false)
theorem VarIs.none {l : List Pl.Pr} {x : ByteArray} (h : VarIs l x (-1)) : Pl.lookP l x.data.toList = Option.none := by
  rcases h with ⟨_, h⟩ | ⟨i, p, hi, _⟩
  · unfold Pl.lookP Pl.prAt
    rw [List.find?_eq_none.2 (fun p hp => by have := h p hp; rw [ByteArray.toList_eq, ByteArray.toList_eq] at this; simp [this])]
    rfl
  · omega
theorem VarIs.some {l : List Pl.Pr} {x : ByteArray} {i : Nat} (h : VarIs l x i) : ∃ p, l[i]? = Option.some p ∧ Pl.lookP l x.data.toList = Option.some p.v := by
  rcases h with ⟨h, _⟩ | ⟨i', p, hi, hp, he, hb⟩
  · omega
  · have hii : i = i' := by omega
    subst hii
    refine ⟨p, hp, ?_⟩
    unfold Pl.lookP Pl.prAt
    have hlt := (List.getElem?_eq_some_iff.1 hp).1
    have hf : l.find? (fun p => p.nm.data.toList == x.data.toList) = Option.some p := by
      rw [List.find?_eq_some_iff_getElem]
      refine ⟨by rw [ByteArray.toList_eq, ByteArray.toList_eq] at he; exact he, i, hlt, (List.getElem?_eq_some_iff.1 hp).2, fun j hj => ?_⟩
      have := hb j _ hj (List.getElem?_eq_getElem (by omega))
      rw [ByteArray.toList_eq, ByteArray.toList_eq] at this
      simp [this]
    rw [hf]
    rfl
theorem VarIs.nat {l : List Pl.Pr} {x : ByteArray} {r : Int} (h : VarIs l x r) (hr : ¬ r < 0) : ∃ i : Nat, r = i := ⟨r.toNat, by omega⟩
set_option maxHeartbeats 1600000 in
theorem l2Var_any (l : List Pl.Pr) (x : ByteArray) (v : Value) (w : World) (hr : PrRow w l v) :
    Calls Tryz.prog 33 #[v, .string x] w fun e w' => ∃ r : Int, e = .returned (.int .i64 r) ∧ VarIs l x r ∧ -1 ≤ r ∧ r < l.length + 1 ∧ w' = w := by
  obtain ⟨ad, cap, rfl, hc, hm, hx⟩ := hr
  unfold maxLen at hm
  have HX := hide hx
  clear hx
  go_enter Tryz.func33, Tryz.ntmps33
  go_wp2_with fail
  go_loopw [5] (fun iv wr => ∃ i : Nat, i ≤ l.length ∧ iv = .int .i64 i ∧ Hid (∀ j q, j < i → l[j]? = some q → (q.nm.toList == x.toList) = false) ∧ wr = w) (fun iv _ => l.length - (intOf iv).toNat)
  case atStart => exact ⟨0, by omega, rfl, hide (fun j q hj => by omega), rfl⟩
  case round =>
    obtain ⟨i, hi, rfl, HN, rfl⟩ := hrel
    by_cases hlt : i < l.length
    · obtain ⟨g, off, rfl, hg, hs⟩ := HX.out (by omega)
      obtain ⟨p, hp⟩ : ∃ p, l[i]? = some p := ⟨_, List.getElem?_eq_getElem hlt⟩
      obtain ⟨c0, _, _, _⟩ := hs i p hp
      have HP := hide hp
      have hii : (i : Int) < (l.length : Int) := by omega
      clear hs hp
      cases he : (p.nm.toList == x.toList)
      · have HE := hide he
        go_wp2_with fail
        go_roundw
        case rel =>
          refine ⟨i + 1, by omega, by go_num, hide fun j q hj hq => ?_, trivial⟩
          by_cases hji : j = i
          · subst hji
            rw [HP.out] at hq
            cases hq
            exact HE.out
          · exact HN.out j q (by omega) hq
        case measure => simp [intOf]; omega
      · have HE := hide he
        go_wp2_with fail
        go_ret
        exact ⟨_, rfl, .inr ⟨i, p, rfl, HP.out, HE.out, HN.out⟩, by omega, by omega, rfl⟩
    · have hie : i = l.length := by omega
      have HV : Hid (VarIs l x (-1)) := by
        refine hide (.inl ⟨rfl, fun p hp => ?_⟩)
        obtain ⟨j, hj⟩ := List.mem_iff_getElem?.1 hp
        exact HN.out j p (by have := (List.getElem?_eq_some_iff.1 hj).1; omega) hj
      clear hie
      go_wp2_with fail
      go_ret
      exact ⟨-1, rfl, HV.out, by omega, by omega, rfl⟩
end Go.Proofs.YtamkncfdfaejjabGreatDoor
