/- A value read: the program and the specification answer by the one value that the text tells. -/
import Derived.Test.YtamkogkcdmgjoaaDoorPlVc
import Derived.Test.YtamkogkcdmgjoaaDoorVgJ
namespace Go.Proofs.YtamkogkcdmgjoaaDoor
open Go.RowKit
set_option linter.unusedVariables false

def VgPost (s : ByteArray) (w : World) (e : Ending) (w' : World) : Prop :=
  ((∃ k n t, Pl.TellsV s k n t ∧ e = .returned (.tuple #[vAgg k n t, .bool true])) ∨ ((∀ k n t, ¬ Pl.TellsV s k n t) ∧ e = .returned (.tuple #[vAgg 0 0 ⟨#[]⟩, .bool false]))) ∧ Below w.heap.size w w'
theorem atoi_range {l : List UInt8} {v : Int} (h : Lib.atoiAll l = .ok v) : -9223372036854775808 ≤ v ∧ v ≤ 9223372036854775807 := by
  unfold Lib.atoiAll at h
  split at h
  · cases h
  · simp only at h
    split at h
    · cases h
    · cases h
    · split at h
      · cases h
      · split at h
        · cases h
        · next u _ h1 h2 =>
          injection h with h
          rw [← h]
          split <;> omega
theorem impl_fin {s : ByteArray} {k n : Int} {t : ByteArray} {w w' : World} {e : Ending} (hc : ∀ k' n' t', Pl.TellsV s k' n' t' → k' = k ∧ n' = n ∧ t' = t) (hne : Pl.okB k n t = false → s.data.toList ≠ [])
    (h : e = .returned (if Pl.putB k n t = s.data.toList then .tuple #[vAgg k n t, .bool true] else .tuple #[vAgg 0 0 ⟨#[]⟩, .bool false]) ∧ Below w.heap.size w w') : VgPost s w e w' := by
  obtain ⟨rfl, hB⟩ := h
  refine ⟨?_, hB⟩
  cases hb : Pl.okB k n t
  · have hp : ¬ Pl.putB k n t = s.data.toList := by
      unfold Pl.putB
      rw [hb]
      simp only [Bool.false_eq_true, if_false]
      exact fun h => hne hb h.symm
    rw [if_neg hp]
    refine .inr ⟨fun k' n' t' ht => ?_, rfl⟩
    obtain ⟨rfl, rfl, rfl⟩ := hc _ _ _ ht
    rw [ht.1] at hb
    cases hb
  · have hpv : Pl.putB k n t = Pl.putV k n t := by unfold Pl.putB; rw [if_pos hb]
    rw [hpv]
    by_cases hp : Pl.putV k n t = s.data.toList
    · rw [if_pos hp]
      exact .inl ⟨k, n, t, ⟨hb, hp⟩, rfl⟩
    · rw [if_neg hp]
      refine .inr ⟨fun k' n' t' ht => ?_, rfl⟩
      obtain ⟨rfl, rfl, rfl⟩ := hc _ _ _ ht
      exact hp ht.2
theorem beq_int_true {x y : Int} (h : (x == y) = true) : x = y := by simpa using h
theorem beq_int_false {x y : Int} (h : (x == y) = false) : ¬ x = y := by simpa using h
theorem noq_text {s t : ByteArray} (hq : NoQ s) (h : s.data.toList = 34 :: (t.data.toList ++ [34])) : False := by
  have h2 := Pl.size_ge h
  rcases hq with h' | ⟨h', hb⟩
  · exact h' h2
  · have := Pl.byte0 34 _ h (by omega)
    exact beq_int_false hb this
theorem none_no : Lib.atoiAll [110, 111, 110, 101] = .«syntax» := by decide

theorem implValueGet_any (s : ByteArray) (hs : s.size ≤ 1048576) (w : World) (hT : Tab w) (hE : Errs w) : Calls Tryd.prog 6 #[.string s] w (VgPost s w) := by
  by_cases hq : ∃ h : 2 ≤ s.size, (((s[0]'(by omega)).toNat : Int) == 34) = true
  · obtain ⟨h2, hq0⟩ := hq
    refine (implGet_of s 2 0 (s.extract 1 (s.size - 1)) (by simp; omega) (by omega) (by omega) w hT (fun W _ => like_text s hs h2 hq0 W)).mono fun e w' h => impl_fin ?_ ?_ h
    · intro k' n' t' ht
      have hb := beq_int_true hq0
      rcases Pl.tells_form ht with ⟨_, _, _, e⟩ | ⟨_, _, _, e⟩ | ⟨h1, h2, e⟩
      · rw [Pl.byte0 110 _ e (by omega)] at hb
        simp at hb
      · obtain ⟨c, r, e2, hc, _⟩ := Pl.itoa_head n'
        rw [Pl.byte0 c r (e.trans e2) (by omega)] at hb
        exact absurd (UInt8.toNat_inj.1 (by simp; omega)) hc
      · exact ⟨h1, h2, (Pl.mid_text e).symm⟩
    · intro _ h
      have : s.data.toList.length = s.size := by simp
      rw [h] at this
      simp at this
      omega
  · have hn : NoQ s := by
      by_cases h2 : 2 ≤ s.size
      · refine .inr ⟨h2, ?_⟩
        cases hb : (((s[0]'(by omega)).toNat : Int) == 34)
        · rfl
        · exact absurd ⟨h2, hb⟩ hq
      · exact .inl h2
    by_cases ha : ∃ v, Lib.atoiAll s.data.toList = .ok v
    · obtain ⟨v, hv⟩ := ha
      obtain ⟨r0, r1⟩ := atoi_range hv
      refine (implGet_of s 1 v ⟨#[]⟩ (by show 0 ≤ _; omega) r0 r1 w hT (fun W _ => like_num s hs hn v hv W)).mono fun e w' h => impl_fin ?_ ?_ h
      · intro k' n' t' ht
        rcases Pl.tells_form ht with ⟨_, _, _, e⟩ | ⟨h1, h2, ⟨a, b⟩, e⟩ | ⟨_, _, e⟩
        · rw [e, none_no] at hv
          cases hv
        · rw [e, Pl.atoi_itoa n' a b] at hv
          injection hv with hv
          exact ⟨h1, hv, h2⟩
        · exact (noq_text hn e).elim
      · intro _ h
        rw [h] at hv
        cases hv
    · have ha' : ∀ v, Lib.atoiAll s.data.toList ≠ .ok v := fun v h => ha ⟨v, h⟩
      refine (implGet_of s 0 0 ⟨#[]⟩ (by show 0 ≤ _; omega) (by omega) (by omega) w hT (fun W hW => like_none s hs hn ha' W (hE.later hW))).mono fun e w' h => impl_fin ?_ ?_ h
      · intro k' n' t' ht
        rcases Pl.tells_form ht with ⟨h1, h2, h3, _⟩ | ⟨_, _, ⟨a, b⟩, e⟩ | ⟨_, _, e⟩
        · exact ⟨h1, h2, h3⟩
        · exact absurd (by rw [e]; exact Pl.atoi_itoa n' a b) (ha' n')
        · exact (noq_text hn e).elim
      · intro h
        have : Pl.okB 0 0 ⟨#[]⟩ = true := by simp [Pl.okB]
        rw [this] at h
        cases h
end Go.Proofs.YtamkogkcdmgjoaaDoor
