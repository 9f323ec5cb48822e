/- What the program knows of events, gone through one by one. -/
import Derived.Test.YthimglgjeibaoaaImG2
import Derived.Test.YthimglgjeibaoaaImG3
import Derived.Test.YthimglgjeibaoaaImG4
import Derived.Test.YthimglgjeibaoaaImG5
namespace Go.Proofs.Ythimglgjeibaoaa
open Go.RowKit
set_option linter.unusedVariables false
set_option linter.unusedSimpArgs false
theorem cmdB_kind {k : Int} {nm : ByteArray} {vk vn : Int} {vt : ByteArray} (h : Pl.cmdB k nm vk vn vt = true) : 1 ≤ k ∧ k ≤ 6 := by
  unfold Pl.cmdB at h
  split at h
  · rename_i hk; omega
  · split at h
    · rename_i hk; omega
    · split at h
      · rename_i hk; omega
      · cases h
theorem cameB_kind {k p : Int} {nm : ByteArray} {o : Bool} {vk vn : Int} {vt : ByteArray} (h : Pl.cameB k p nm o vk vn vt = true) : k = 4 ∨ (1 ≤ k ∧ k ≤ 3 ∧ 0 ≤ p ∧ p ≤ 39) := by
  unfold Pl.cameB at h
  split at h
  · rename_i hk
    simp only [Bool.and_eq_true, Pl.placeB, decide_eq_true_eq] at h
    right; omega
  · split at h
    · rename_i hk
      simp only [Bool.and_eq_true, Pl.placeB, decide_eq_true_eq] at h
      right; omega
    · split at h
      · rename_i hk; left; exact hk
      · cases h
theorem evB_fit : Pl.Fit Pl.evB := by
  intro e h
  unfold Pl.evB at h
  by_cases k1 : e.k = 1
  · refine ⟨by omega, by omega, by omega, by omega, by omega⟩
  · rw [if_neg k1] at h
    by_cases k2 : e.k = 2
    · rw [if_pos k2] at h
      simp only [Bool.and_eq_true, decide_eq_true_eq] at h
      refine ⟨fun _ => by omega, by omega, by omega, by omega, by omega⟩
    · rw [if_neg k2] at h
      by_cases k3 : e.k = 3
      · rw [if_pos k3] at h
        simp only [Bool.and_eq_true] at h
        have := cmdB_kind h.2.2.1
        refine ⟨by omega, fun _ => this, by omega, by omega, by omega⟩
      · rw [if_neg k3] at h
        by_cases k4 : e.k = 4
        · rw [if_pos k4] at h
          simp only [Bool.and_eq_true] at h
          have := cameB_kind h.2.2.2
          refine ⟨by omega, by omega, fun _ => this, by omega, by omega⟩
        · rw [if_neg k4] at h
          by_cases k5 : e.k = 5
          · refine ⟨by omega, by omega, by omega, by omega, by omega⟩
          · rw [if_neg k5] at h
            cases h
/-- bounds of what is known behind so many events -/
structure Inv (n : Nat) (h : Pl.Past) : Prop where
  size : h.opn.length = 40
  events : 0 ≤ h.events ∧ h.events ≤ n
  tasks : 0 ≤ h.tasks ∧ h.tasks ≤ n
  came : 0 ≤ h.came ∧ h.came ≤ n
  asked : 0 ≤ h.asked
  due : 0 ≤ h.due
  room : h.asked + h.due ≤ 40
theorem stop_parts {h : Pl.Past} {e : Ev} (hgo : Pl.stopB Pl.evB h e = false) : Pl.evB e = true ∧ decide (0 < h.due) = (e.k == 3) := by
  have hov : h.over = false := by
    cases hq : h.over
    · rfl
    · simp [Pl.stopB, hq] at hgo
  have hfe : Pl.evB e = true := by
    cases hq : Pl.evB e
    · simp [Pl.stopB, hq] at hgo
    · rfl
  refine ⟨hfe, ?_⟩
  have := hgo
  simp only [Pl.stopB, hov, hfe, Bool.false_or, Bool.not_true, Bool.or_eq_false_iff] at this
  simpa using this.2
theorem Inv.next {n : Nat} {h : Pl.Past} (I : Inv n h) (e : Ev) (hok : (Pl.pwith Pl.evB h e).2 = true) : Inv (n + 1) (Pl.pwith Pl.evB h e).1 := by
  obtain ⟨i1, ⟨i2, i3⟩, ⟨i4, i5⟩, ⟨i6, i7⟩, i8, i9, i10⟩ := I
  cases hgo : Pl.stopB Pl.evB h e
  · obtain ⟨hfe, hdu⟩ := stop_parts hgo
    obtain ⟨f2, f3, f4, _, _⟩ := evB_fit e hfe
    have hp : Pl.pwith Pl.evB h e = (if e.k = 2 then Pl.withTask { h with events := h.events + 1 } e.many else if e.k = 3 then Pl.withCmd { h with events := h.events + 1 } e.ck else if e.k = 4 then Pl.withCame { h with events := h.events + 1 } e.ct e.mp else ({ h with events := h.events + 1, news := e.k == 1, over := e.k == 5 }, true)) := by
      unfold Pl.pwith; rw [hgo, if_neg (by simp)]
    rw [hp] at hok ⊢
    by_cases k2 : e.k = 2
    · rw [if_pos k2] at hok ⊢
      have := f2 k2
      have h40 : h.asked + e.many ≤ 40 := by simp [Pl.withTask] at hok; exact hok.2
      refine ⟨i1, ?_, ?_, ?_, i8, ?_, ?_⟩ <;> simp only [Pl.withTask] <;> omega
    · rw [if_neg k2] at hok ⊢
      by_cases k3 : e.k = 3
      · rw [if_pos k3] at hok ⊢
        have hpos : 0 < h.due := by
          have : decide (0 < h.due) = true := by rw [hdu]; simp [k3]
          simpa using this
        refine ⟨by simp [Pl.withCmd, i1], ?_, ?_, ?_, ?_, ?_, ?_⟩ <;> simp only [Pl.withCmd] <;> omega
      · rw [if_neg k3] at hok ⊢
        by_cases k4 : e.k = 4
        · rw [if_pos k4] at hok ⊢
          unfold Pl.withCame at hok ⊢
          split
          · refine ⟨i1, ?_, ?_, ?_, i8, i9, i10⟩ <;> simp only <;> omega
          · refine ⟨by simp [i1], ?_, ?_, ?_, i8, i9, i10⟩ <;> simp only <;> omega
        · rw [if_neg k4] at hok ⊢
          refine ⟨i1, ?_, ?_, ?_, i8, i9, i10⟩ <;> simp only <;> omega
  · simp [Pl.pwith, hgo] at hok
theorem with_any (h : Pl.Past) {n : Nat} (I : Inv n h) (hn : n ≤ 1000000) (e : Ev) (hw : e.Wf) (w : World) :
    Calls Try.prog 18 #[pastV h, evV e] w fun x w' => x = .returned (.tuple #[pastV (Pl.pwith Pl.evB h e).1, .bool (Pl.pwith Pl.evB h e).2]) ∧ Below w.heap.size w w' := by
  obtain ⟨i1, ⟨i2, i3⟩, ⟨i4, i5⟩, ⟨i6, i7⟩, i8, i9, i10⟩ := I
  cases hgo : Pl.stopB Pl.evB h e
  · obtain ⟨hfe, hdu⟩ := stop_parts hgo
    obtain ⟨f2, f3, f4, _, _⟩ := evB_fit e hfe
    by_cases k2 : e.k = 2
    · exact with_task h i1 e hw w hgo k2 ⟨i2, by omega⟩ ⟨i4, by omega⟩ ⟨i8, by omega⟩ (f2 k2)
    · by_cases k3 : e.k = 3
      · have hpos : 0 < h.due := by
          have : decide (0 < h.due) = true := by rw [hdu]; simp [k3]
          simpa using this
        exact with_cmd h i1 e hw w hgo k3 ⟨i2, by omega⟩ h.asked.toNat (by omega) (by omega) ⟨by omega, by omega⟩
      · by_cases k4 : e.k = 4
        · refine with_came h i1 e hw w hgo k4 ⟨i2, by omega⟩ ⟨i6, by omega⟩ ?_
          by_cases h4 : e.ct = 4
          · exact .inl h4
          · obtain ⟨_, _, p0, p1⟩ := (f4 k4).resolve_left h4
            exact .inr ⟨h4, e.mp.toNat, by omega, by omega⟩
        · exact with_else h i1 e hw w hgo ⟨k2, k3, k4⟩ ⟨i2, by omega⟩
  · exact with_stop h i1 e hw w hgo
end Go.Proofs.Ythimglgjeibaoaa
