/- Something that came, as the model has it; counted and copied by the laws. -/
import Derived.Test.YthimglgjeibaoaaCame1
namespace Go.Proofs.Ythimglgjeibaoaa
open Go.RowKit
set_option linter.unusedVariables false
set_option linter.unusedSimpArgs false

theorem in_at (n lo hi : Int) {b : Bool} (h : (decide (lo ≤ n) && decide (n ≤ hi)) = b) (w : World) :
    Calls Try.prog 28 #[.int .i64 n, .int .i64 lo, .int .i64 hi] w fun e w' => e = .returned (.bool b) ∧ w' = w := by
  have := in_any n lo hi w
  rw [h] at this
  exact this

set_option maxHeartbeats 3200000 in
theorem specCame_two (p : Int) (nm : ByteArray) (o : Bool) (vk vn : Int) (vt : ByteArray) (w : World) :
    Calls Try.prog 45 #[cameV 2 p nm o vk vn vt] w fun e w' => e = .returned (.bool (Pl.placeB p && (nm.toList.isEmpty && (o && Pl.noVal vk vn vt)))) ∧ Below w.heap.size w w' := by
  have hx : Hid (∀ b, Pl.placeB p = b → ∀ w : World, Calls Try.prog 28 #[.int .i64 p, .int .i64 0, .int .i64 39] w fun e w' => e = .returned (.bool b) ∧ w' = w) := fun b h w => in_at p 0 39 h w
  generalize Pl.placeB p = pb at hx
  have hpl := hide (hx.out pb rfl)
  clear hx
  cases pb <;> cases he : nm.toList.isEmpty <;> cases o
  all_goals
    go_enter Try.func45, Try.ntmps45
    go_wp2_with fail
    refine (hpl.out _).mono ?_
    rintro e w1 ⟨rfl, rfl⟩
    go_wp2
    all_goals
      go_ret
      exact ⟨by simp [Pl.noVal, *], (Below.refl _ _).alloc (Nat.le_refl _) _⟩

theorem Pl.noVal_cases (vk vn : Int) (vt : ByteArray) : (vk = 0 ∧ vn = 0 ∧ vt.toList = []) ∨ (vk = 0 ∧ vn = 0 ∧ ¬ vt.toList = []) ∨ (vk = 0 ∧ ¬ vn = 0) ∨ ¬ vk = 0 := by
  by_cases h0 : vk = 0 <;> by_cases h1 : vn = 0 <;> by_cases h2 : vt.toList = [] <;> simp [h0, h1, h2]

set_option maxHeartbeats 3200000 in
theorem specCame_oneA (k p : Int) (hk : k = 1 ∨ k = 3) (nm : ByteArray) (o : Bool) (vk vn : Int) (vt : ByteArray) (w : World) (h : Pl.placeB p = false ∨ nm.toList.isEmpty = false) :
    Calls Try.prog 45 #[cameV k p nm o vk vn vt] w fun e w' => e = .returned (.bool false) ∧ Below w.heap.size w w' := by
  have hx : Hid (∀ b, Pl.placeB p = b → ∀ w : World, Calls Try.prog 28 #[.int .i64 p, .int .i64 0, .int .i64 39] w fun e w' => e = .returned (.bool b) ∧ w' = w) := fun b h w => in_at p 0 39 h w
  generalize Pl.placeB p = pb at hx h
  have hpl := hide (hx.out pb rfl)
  clear hx
  cases pb
  · clear h
    rcases hk with rfl | rfl
    all_goals
      go_enter Try.func45, Try.ntmps45
      go_wp2_with fail
      refine (hpl.out _).mono ?_
      rintro e w1 ⟨rfl, rfl⟩
      go_wp2
      all_goals
        go_ret
        exact ⟨rfl, (Below.refl _ _).alloc (Nat.le_refl _) _⟩
  · have he : nm.toList.isEmpty = false := by simpa using h
    clear h
    rcases hk with rfl | rfl
    all_goals
      go_enter Try.func45, Try.ntmps45
      go_wp2_with fail
      refine (hpl.out _).mono ?_
      rintro e w1 ⟨rfl, rfl⟩
      go_wp2
      all_goals
        go_ret
        exact ⟨rfl, (Below.refl _ _).alloc (Nat.le_refl _) _⟩

set_option maxHeartbeats 3200000 in
theorem specCame_oneB (k p : Int) (hk : k = 1 ∨ k = 3) (nm : ByteArray) (o : Bool) (vk vn : Int) (vt : ByteArray) (ht : vt.size ≤ maxLen) (w : World) (hp : Pl.placeB p = true) (he : nm.toList.isEmpty = true) :
    Calls Try.prog 45 #[cameV k p nm o vk vn vt] w fun e w' => e = .returned (.bool (Pl.okB vk vn vt && (o || Pl.noVal vk vn vt))) ∧ Below w.heap.size w w' := by
  have hy : Hid (∀ b, Pl.okB vk vn vt = b → ∀ w : World, Calls Try.prog 43 #[vAgg vk vn vt] w fun e w' => e = .returned (.bool b) ∧ Below w.heap.size w w') := fun b h w => specVal_at vk vn vt ht h w
  have hpl := hide (fun w => in_at p 0 39 hp w)
  generalize Pl.okB vk vn vt = ob at hy
  have hv := hide (hy.out ob rfl)
  clear hy hp
  rcases Pl.noVal_cases vk vn vt with ⟨rfl, rfl, h2⟩ | ⟨rfl, rfl, h2⟩ | ⟨rfl, h2⟩ | h2
  all_goals
    cases ob <;> cases o
    all_goals
      rcases hk with rfl | rfl
      all_goals
        go_enter Try.func45, Try.ntmps45
        go_wp2_with fail
        refine (hpl.out _).mono ?_
        rintro e w1 ⟨rfl, rfl⟩
        go_wp2_with fail
        refine (hv.out _).mono ?_
        rintro e w1 ⟨rfl, hB1⟩
        obtain ⟨z, c0, c1, c2, c3, c4, c5, c6⟩ := BoxSeven.mk hB1
        have HB1 := hide (below_box1 hB1)
        clear hB1
        go_wp2
        go_ret
        exact ⟨by simp [Pl.noVal, h2], HB1.out⟩

theorem specCame_one (k p : Int) (hk : k = 1 ∨ k = 3) (nm : ByteArray) (o : Bool) (vk vn : Int) (vt : ByteArray) (ht : vt.size ≤ maxLen) (w : World) :
    Calls Try.prog 45 #[cameV k p nm o vk vn vt] w fun e w' => e = .returned (.bool (Pl.placeB p && (nm.toList.isEmpty && (Pl.okB vk vn vt && (o || Pl.noVal vk vn vt))))) ∧ Below w.heap.size w w' := by
  cases hp : Pl.placeB p
  · exact specCame_oneA k p hk nm o vk vn vt w (Or.inl hp)
  · cases he : nm.toList.isEmpty
    · exact specCame_oneA k p hk nm o vk vn vt w (Or.inr he)
    · exact specCame_oneB k p hk nm o vk vn vt ht w hp he

set_option maxHeartbeats 3200000 in
theorem specCame_four (p : Int) (nm : ByteArray) (o : Bool) (vk vn : Int) (vt : ByteArray) (hn : nm.size ≤ maxLen) (ht : vt.size ≤ maxLen) (w : World) :
    Calls Try.prog 45 #[cameV 4 p nm o vk vn vt] w fun e w' => e = .returned (.bool (p == 0 && (Pl.nameB nm && (o && Pl.okB vk vn vt)))) ∧ Below w.heap.size w w' := by
  have hx : Hid (∀ b, Pl.nameB nm = b → ∀ w : World, Calls Try.prog 59 #[.string nm] w fun e w' => e = .returned (.bool b) ∧ Below w.heap.size w w') := fun b h w => l1Name_at nm hn h w
  have hy : Hid (∀ b, Pl.okB vk vn vt = b → ∀ w : World, Calls Try.prog 43 #[vAgg vk vn vt] w fun e w' => e = .returned (.bool b) ∧ Below w.heap.size w w') := fun b h w => specVal_at vk vn vt ht h w
  have hz : Hid (∀ w : World, Calls Try.prog 28 #[.int .i64 p, .int .i64 0, .int .i64 39] w fun e w' => e = .returned (.bool (Pl.placeB p)) ∧ w' = w) := fun w => in_at p 0 39 rfl w
  generalize Pl.placeB p = qb at hz
  generalize Pl.okB vk vn vt = ob at hy
  have hv := hide (hy.out ob rfl)
  clear hy
  cases hp : (p == 0)
  · go_enter Try.func45, Try.ntmps45
    go_wp2_with fail
    refine (hz.out _).mono ?_
    rintro e w1 ⟨rfl, rfl⟩
    go_wp2
    all_goals
      go_ret
      exact ⟨rfl, (Below.refl _ _).alloc (Nat.le_refl _) _⟩
  · generalize Pl.nameB nm = pb at hx
    have hpl := hide (hx.out pb rfl)
    clear hx
    rcases Pl.noVal_cases vk vn vt with ⟨rfl, rfl, h2⟩ | ⟨rfl, rfl, h2⟩ | ⟨rfl, h2⟩ | h2
    all_goals
      cases pb
      · go_enter Try.func45, Try.ntmps45
        go_wp2_with fail
        refine (hz.out _).mono ?_
        rintro e w1 ⟨rfl, rfl⟩
        go_wp2_with fail
        refine (hpl.out _).mono ?_
        rintro e w1 ⟨rfl, hB1⟩
        have HB1 := hide (below_box1 hB1)
        clear hB1
        go_wp2
        go_ret
        exact ⟨rfl, HB1.out⟩
      · cases o
        · go_enter Try.func45, Try.ntmps45
          go_wp2_with fail
          refine (hz.out _).mono ?_
          rintro e w1 ⟨rfl, rfl⟩
          go_wp2_with fail
          refine (hpl.out _).mono ?_
          rintro e w1 ⟨rfl, hB1⟩
          obtain ⟨z, c0, c1, c2, c3, c4, c5, c6⟩ := BoxSeven.mk hB1
          have HB1 := hide (below_box1 hB1)
          clear hB1
          go_wp2
          go_ret
          exact ⟨rfl, HB1.out⟩
        · go_enter Try.func45, Try.ntmps45
          go_wp2_with fail
          refine (hz.out _).mono ?_
          rintro e w1 ⟨rfl, rfl⟩
          go_wp2_with fail
          refine (hpl.out _).mono ?_
          rintro e w1 ⟨rfl, hB1⟩
          obtain ⟨z, c0, c1, c2, c3, c4, c5, c6⟩ := BoxSeven.mk hB1
          have HB1 := hide (below_box1 hB1)
          clear hB1
          go_wp2_with fail
          refine (hv.out _).mono ?_
          rintro e w2 ⟨rfl, hB2⟩
          go_wp2
          go_ret
          exact ⟨rfl, HB1.out.trans (hB2.mono HB1.out.size)⟩

set_option maxHeartbeats 1600000 in
theorem specCameOk_any (k p : Int) (nm : ByteArray) (o : Bool) (vk vn : Int) (vt : ByteArray) (hn : nm.size ≤ maxLen) (ht : vt.size ≤ maxLen) (w : World) :
    Calls Try.prog 45 #[cameV k p nm o vk vn vt] w fun e w' => e = .returned (.bool (Pl.cameB k p nm o vk vn vt)) ∧ Below w.heap.size w w' := by
  unfold Pl.cameB
  by_cases k13 : k = 1 ∨ k = 3
  · rw [if_pos k13]
    exact specCame_one k p k13 nm o vk vn vt ht w
  · rw [if_neg k13]
    by_cases k2 : k = 2
    · subst k2
      rw [if_pos rfl]
      exact specCame_two p nm o vk vn vt w
    · rw [if_neg k2]
      by_cases k4 : k = 4
      · subst k4
        rw [if_pos rfl]
        exact specCame_four p nm o vk vn vt hn ht w
      · rw [if_neg k4]
        have q1 : (k == 1) = false := by simp; omega
        have q2 : (k == 2) = false := by simp; omega
        have q3 : (k == 3) = false := by simp; omega
        have q4 : (k == 4) = false := by simp; omega
        clear k13 k2 k4
        have hz : Hid (∀ w : World, Calls Try.prog 28 #[.int .i64 p, .int .i64 0, .int .i64 39] w fun e w' => e = .returned (.bool (Pl.placeB p)) ∧ w' = w) := fun w => in_at p 0 39 rfl w
        generalize Pl.placeB p = qb at hz
        go_enter Try.func45, Try.ntmps45
        go_wp2_with fail
        refine (hz.out _).mono ?_
        rintro e w1 ⟨rfl, rfl⟩
        go_wp2
        all_goals
          go_ret
          exact ⟨rfl, (Below.refl _ _).alloc (Nat.le_refl _) _⟩
end Go.Proofs.Ythimglgjeibaoaa
