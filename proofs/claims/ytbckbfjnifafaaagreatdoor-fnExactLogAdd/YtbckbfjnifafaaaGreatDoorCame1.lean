/- Something that came: counted and copied by the laws, and whether it is ok, of model and program. -/
import Derived.Test.YtbckbfjnifafaaaGreatDoorNmAt
namespace Go.Proofs.YtbckbfjnifafaaaGreatDoor
open Go.RowKit
set_option linter.unusedVariables false
set_option linter.unusedSimpArgs false

abbrev cameV (k p : Int) (nm : ByteArray) (o : Bool) (vk vn : Int) (vt : ByteArray) : Value := .agg #[.int .i64 k, .int .i64 p, .string nm, .bool o, .int .i64 vk, .int .i64 vn, .string vt]

/-- no value at all -/
def Pl.noVal (vk vn : Int) (vt : ByteArray) : Bool := vk == 0 && (vn == 0 && vt.toList.isEmpty)
def Pl.placeB (p : Int) : Bool := decide (0 ≤ p) && decide (p ≤ 39)
/-- whether what came is ok, in plain words -/
def Pl.cameB (k p : Int) (nm : ByteArray) (o : Bool) (vk vn : Int) (vt : ByteArray) : Bool :=
  if k = 1 ∨ k = 3 then Pl.placeB p && (nm.toList.isEmpty && (Pl.okB vk vn vt && (o || Pl.noVal vk vn vt)))
  else if k = 2 then Pl.placeB p && (nm.toList.isEmpty && (o && Pl.noVal vk vn vt))
  else if k = 4 then p == 0 && (Pl.nameB nm && (o && Pl.okB vk vn vt))
  else false

set_option maxHeartbeats 400000 in
theorem placeFits_any (k p : Int) (nm : ByteArray) (o : Bool) (vk vn : Int) (vt : ByteArray) (w : World) :
    Calls Tryz.prog 139 #[cameV k p nm o vk vn vt] w fun e w' => e = .returned (.bool (Pl.placeB p && nm.toList.isEmpty)) ∧ Below w.heap.size w w' := by
  by_cases h0 : 0 ≤ p
  · by_cases h1 : p < 40
    · go_enter Tryz.func139, Tryz.ntmps139
      go_wp2
      go_ret
      exact ⟨by rw [Pl.placeB, decide_eq_true h0, decide_eq_true (show p ≤ 39 by omega)]; rfl, (Below.refl _ _).alloc (Nat.le_refl _) _⟩
    · go_enter Tryz.func139, Tryz.ntmps139
      go_wp2
      go_ret
      exact ⟨by rw [Pl.placeB, decide_eq_true h0, decide_eq_false (show ¬ p ≤ 39 by omega)]; rfl, (Below.refl _ _).alloc (Nat.le_refl _) _⟩
  · go_enter Tryz.func139, Tryz.ntmps139
    go_wp2
    go_ret
    exact ⟨by rw [Pl.placeB, decide_eq_false (show ¬ 0 ≤ p by omega)]; rfl, (Below.refl _ _).alloc (Nat.le_refl _) _⟩
theorem placeFits_at (k p : Int) (nm : ByteArray) (o : Bool) (vk vn : Int) (vt : ByteArray) {b : Bool} (h : (Pl.placeB p && nm.toList.isEmpty) = b) (w : World) :
    Calls Tryz.prog 139 #[cameV k p nm o vk vn vt] w fun e w' => e = .returned (.bool b) ∧ Below w.heap.size w w' := by
  have := placeFits_any k p nm o vk vn vt w
  rw [h] at this
  exact this

theorem implVal_at (vk vn : Int) (vt : ByteArray) (ht : vt.size ≤ maxLen) {b : Bool} (h : Pl.okB vk vn vt = b) (w : World) :
    Calls Tryz.prog 107 #[vAgg vk vn vt] w fun e w' => e = .returned (.bool b) ∧ Below w.heap.size w w' := by
  have := implValueOk_any vk vn vt ht w
  rw [h] at this
  exact this
theorem specVal_at (vk vn : Int) (vt : ByteArray) (ht : vt.size ≤ maxLen) {b : Bool} (h : Pl.okB vk vn vt = b) (w : World) :
    Calls Tryz.prog 54 #[vAgg vk vn vt] w fun e w' => e = .returned (.bool b) ∧ Below w.heap.size w w' := by
  have := specValueOk_any vk vn vt ht w
  rw [h] at this
  exact this

/-- the seven cells of a box -/
def BoxSeven (b : Nat) (x0 x1 x2 x3 x4 x5 x6 : Value) (w : World) : Prop :=
  b < w.heap.size ∧ w.cell? ⟨b, 0, none⟩ = some x0 ∧ w.cell? ⟨b, 1, none⟩ = some x1 ∧ w.cell? ⟨b, 2, none⟩ = some x2 ∧ w.cell? ⟨b, 3, none⟩ = some x3 ∧ w.cell? ⟨b, 4, none⟩ = some x4 ∧ w.cell? ⟨b, 5, none⟩ = some x5 ∧ w.cell? ⟨b, 6, none⟩ = some x6
theorem BoxSeven.mk {w w1 : World} {x0 x1 x2 x3 x4 x5 x6 : Value} {T : TypeId} (hb : Below (w.alloc (.cells #[x0, x1, x2, x3, x4, x5, x6] T)).heap.size (w.alloc (.cells #[x0, x1, x2, x3, x4, x5, x6] T)) w1) : BoxSeven w.heap.size x0 x1 x2 x3 x4 x5 x6 w1 := by
  have C : ∀ o, w1.cell? ⟨w.heap.size, o, none⟩ = (#[x0, x1, x2, x3, x4, x5, x6] : Array Value)[o]? := fun o => by rw [hb.cell (p := ⟨w.heap.size, o, none⟩) (by simp)]; simp
  exact ⟨by have := hb.size; simp at this; omega, C 0, C 1, C 2, C 3, C 4, C 5, C 6⟩
theorem BoxSeven.later {b : Nat} {x0 x1 x2 x3 x4 x5 x6 : Value} {w w1 : World} (h : BoxSeven b x0 x1 x2 x3 x4 x5 x6 w) (hB : Below w.heap.size w w1) : BoxSeven b x0 x1 x2 x3 x4 x5 x6 w1 := by
  obtain ⟨hb, h0, h1, h2, h3, h4, h5, h6⟩ := h
  have C : ∀ o, w1.cell? ⟨b, o, none⟩ = w.cell? ⟨b, o, none⟩ := fun o => hB.cell (p := ⟨b, o, none⟩) hb
  exact ⟨by have := hB.size; omega, (C _).trans h0, (C _).trans h1, (C _).trans h2, (C _).trans h3, (C _).trans h4, (C _).trans h5, (C _).trans h6⟩

set_option maxHeartbeats 1600000 in
theorem implCame_two (p : Int) (nm : ByteArray) (o : Bool) (vk vn : Int) (vt : ByteArray) (ht : vt.size ≤ maxLen) (w : World) :
    Calls Tryz.prog 113 #[cameV 2 p nm o vk vn vt] w fun e w' => e = .returned (.bool ((Pl.placeB p && nm.toList.isEmpty) && (o && Pl.noVal vk vn vt))) ∧ Below w.heap.size w w' := by
  have hx : Hid (∀ b, (Pl.placeB p && nm.toList.isEmpty) = b → ∀ w : World, Calls Tryz.prog 139 #[cameV 2 p nm o vk vn vt] w fun e w' => e = .returned (.bool b) ∧ Below w.heap.size w w') := fun b h w => placeFits_at 2 p nm o vk vn vt h w
  generalize (Pl.placeB p && nm.toList.isEmpty) = pb at hx
  have hpl := hide (hx.out pb rfl)
  clear hx
  cases pb
  · go_enter Tryz.func113, Tryz.ntmps113
    go_wp2_with fail
    refine (hpl.out _).mono ?_
    rintro e w1 ⟨rfl, hB1⟩
    go_wp2
    go_ret
    exact ⟨rfl, below_box1 hB1⟩
  · cases o
    · go_enter Tryz.func113, Tryz.ntmps113
      go_wp2_with fail
      refine (hpl.out _).mono ?_
      rintro e w1 ⟨rfl, hB1⟩
      obtain ⟨z, c0, c1, c2, c3, c4, c5, c6⟩ := BoxSeven.mk hB1
      have HB1 := hide (below_box1 hB1)
      clear hB1
      go_wp2
      go_ret
      exact ⟨rfl, HB1.out⟩
    · go_enter Tryz.func113, Tryz.ntmps113
      go_wp2_with fail
      refine (hpl.out _).mono ?_
      rintro e w1 ⟨rfl, hB1⟩
      obtain ⟨z, c0, c1, c2, c3, c4, c5, c6⟩ := BoxSeven.mk hB1
      have HB1 := hide (below_box1 hB1)
      clear hB1
      go_wp2
      all_goals
        go_ret
        exact ⟨by simp [Pl.noVal, *], HB1.out⟩

set_option maxHeartbeats 3200000 in
theorem implCame_one (k p : Int) (hk : k = 1 ∨ k = 3) (nm : ByteArray) (o : Bool) (vk vn : Int) (vt : ByteArray) (ht : vt.size ≤ maxLen) (w : World) :
    Calls Tryz.prog 113 #[cameV k p nm o vk vn vt] w fun e w' => e = .returned (.bool ((Pl.placeB p && nm.toList.isEmpty) && (Pl.okB vk vn vt && (o || Pl.noVal vk vn vt)))) ∧ Below w.heap.size w w' := by
  have hx : Hid (∀ b, (Pl.placeB p && nm.toList.isEmpty) = b → ∀ w : World, Calls Tryz.prog 139 #[cameV k p nm o vk vn vt] w fun e w' => e = .returned (.bool b) ∧ Below w.heap.size w w') := fun b h w => placeFits_at k p nm o vk vn vt h w
  have hy : Hid (∀ b, Pl.okB vk vn vt = b → ∀ w : World, Calls Tryz.prog 107 #[vAgg vk vn vt] w fun e w' => e = .returned (.bool b) ∧ Below w.heap.size w w') := fun b h w => implVal_at vk vn vt ht h w
  generalize (Pl.placeB p && nm.toList.isEmpty) = pb at hx
  generalize Pl.okB vk vn vt = ob at hy
  have hpl := hide (hx.out pb rfl)
  have hv := hide (hy.out ob rfl)
  clear hx hy
  cases pb
  · rcases hk with rfl | rfl
    all_goals
      go_enter Tryz.func113, Tryz.ntmps113
      go_wp2_with fail
      refine (hpl.out _).mono ?_
      rintro e w1 ⟨rfl, hB1⟩
      go_wp2
      go_ret
      exact ⟨rfl, below_box1 hB1⟩
  · cases ob
    · rcases hk with rfl | rfl
      all_goals
        go_enter Tryz.func113, Tryz.ntmps113
        go_wp2_with fail
        refine (hpl.out _).mono ?_
        rintro e w1 ⟨rfl, hB1⟩
        obtain ⟨z, c0, c1, c2, c3, c4, c5, c6⟩ := BoxSeven.mk hB1
        have HB1 := hide (below_box1 hB1)
        clear hB1
        go_wp2_with fail
        refine (hv.out _).mono ?_
        rintro e w2 ⟨rfl, hB2⟩
        have HB2 := hide (HB1.out.trans (hB2.mono HB1.out.size))
        go_wp2
        go_ret
        exact ⟨rfl, HB2.out⟩
    · cases o
      · rcases hk with rfl | rfl
        all_goals
          go_enter Tryz.func113, Tryz.ntmps113
          go_wp2_with fail
          refine (hpl.out _).mono ?_
          rintro e w1 ⟨rfl, hB1⟩
          have HX := hide (BoxSeven.mk hB1)
          obtain ⟨z, c0, c1, c2, c3, c4, c5, c6⟩ := HX.out
          have HB1 := hide (below_box1 hB1)
          clear hB1
          go_wp2_with fail
          refine (hv.out _).mono ?_
          rintro e w2 ⟨rfl, hB2⟩
          have HB2 := hide (HB1.out.trans (hB2.mono HB1.out.size))
          have HX2 := hide (HX.out.later hB2)
          clear z c0 c1 c2 c3 c4 c5 c6 hB2
          obtain ⟨z, c0, c1, c2, c3, c4, c5, c6⟩ := HX2.out
          go_wp2
          all_goals
            go_ret
            exact ⟨by simp [Pl.noVal, *], HB2.out⟩
      · rcases hk with rfl | rfl
        all_goals
          go_enter Tryz.func113, Tryz.ntmps113
          go_wp2_with fail
          refine (hpl.out _).mono ?_
          rintro e w1 ⟨rfl, hB1⟩
          have HX := hide (BoxSeven.mk hB1)
          obtain ⟨z, c0, c1, c2, c3, c4, c5, c6⟩ := HX.out
          have HB1 := hide (below_box1 hB1)
          clear hB1
          go_wp2_with fail
          refine (hv.out _).mono ?_
          rintro e w2 ⟨rfl, hB2⟩
          have HB2 := hide (HB1.out.trans (hB2.mono HB1.out.size))
          have HX2 := hide (HX.out.later hB2)
          clear z c0 c1 c2 c3 c4 c5 c6 hB2
          obtain ⟨z, c0, c1, c2, c3, c4, c5, c6⟩ := HX2.out
          go_wp2
          go_ret
          exact ⟨rfl, HB2.out⟩

set_option maxHeartbeats 1600000 in
theorem implCame_four (p : Int) (nm : ByteArray) (o : Bool) (vk vn : Int) (vt : ByteArray) (hn : nm.size ≤ maxLen) (ht : vt.size ≤ maxLen) (w : World) :
    Calls Tryz.prog 113 #[cameV 4 p nm o vk vn vt] w fun e w' => e = .returned (.bool (p == 0 && (Pl.nameB nm && (o && Pl.okB vk vn vt)))) ∧ Below w.heap.size w w' := by
  have hx : Hid (∀ b, Pl.nameB nm = b → ∀ w : World, Calls Tryz.prog 106 #[.string nm] w fun e w' => e = .returned (.bool b) ∧ w' = w) := fun b h w => implName_at nm hn h w
  have hy : Hid (∀ b, Pl.okB vk vn vt = b → ∀ w : World, Calls Tryz.prog 107 #[vAgg vk vn vt] w fun e w' => e = .returned (.bool b) ∧ Below w.heap.size w w') := fun b h w => implVal_at vk vn vt ht h w
  generalize Pl.nameB nm = pb at hx
  generalize Pl.okB vk vn vt = ob at hy
  have hpl := hide (hx.out pb rfl)
  have hv := hide (hy.out ob rfl)
  clear hx hy
  cases hp : (p == 0)
  all_goals
    cases pb
    · go_enter Tryz.func113, Tryz.ntmps113
      go_wp2_with fail
      refine (hpl.out _).mono ?_
      rintro e w1 ⟨rfl, rfl⟩
      go_wp2
      go_ret
      exact ⟨rfl, (Below.refl _ _).alloc (Nat.le_refl _) _⟩
    · cases o
      · go_enter Tryz.func113, Tryz.ntmps113
        go_wp2_with fail
        refine (hpl.out _).mono ?_
        rintro e w1 ⟨rfl, rfl⟩
        go_wp2
        go_ret
        exact ⟨rfl, (Below.refl _ _).alloc (Nat.le_refl _) _⟩
      · cases ob
        all_goals
          go_enter Tryz.func113, Tryz.ntmps113
          go_wp2_with fail
          refine (hpl.out _).mono ?_
          rintro e w1 ⟨rfl, rfl⟩
          go_wp2_with fail
          refine (hv.out _).mono ?_
          rintro e w1 ⟨rfl, hB1⟩
          obtain ⟨z, c0, c1, c2, c3, c4, c5, c6⟩ := BoxSeven.mk hB1
          have HB1 := hide (below_box1 hB1)
          clear hB1
          go_wp2
          go_ret
          exact ⟨rfl, HB1.out⟩

set_option maxHeartbeats 1600000 in
theorem implCameOk_any (k p : Int) (nm : ByteArray) (o : Bool) (vk vn : Int) (vt : ByteArray) (hn : nm.size ≤ maxLen) (ht : vt.size ≤ maxLen) (w : World) :
    Calls Tryz.prog 113 #[cameV k p nm o vk vn vt] w fun e w' => e = .returned (.bool (Pl.cameB k p nm o vk vn vt)) ∧ Below w.heap.size w w' := by
  unfold Pl.cameB
  by_cases k13 : k = 1 ∨ k = 3
  · rw [if_pos k13, ← Bool.and_assoc]
    exact implCame_one k p k13 nm o vk vn vt ht w
  · rw [if_neg k13]
    by_cases k2 : k = 2
    · subst k2
      rw [if_pos rfl, ← Bool.and_assoc]
      exact implCame_two p nm o vk vn vt ht w
    · rw [if_neg k2]
      by_cases k4 : k = 4
      · subst k4
        rw [if_pos rfl]
        exact implCame_four p nm o vk vn vt hn ht w
      · rw [if_neg k4]
        have q1 : (k == 1) = false := by simp; omega
        have q2 : (k == 2) = false := by simp; omega
        have q3 : (k == 3) = false := by simp; omega
        have q4 : (k == 4) = false := by simp; omega
        clear k13 k2 k4
        go_enter Tryz.func113, Tryz.ntmps113
        go_wp2
        go_ret
        exact ⟨rfl, (Below.refl _ _).alloc (Nat.le_refl _) _⟩
end Go.Proofs.YtbckbfjnifafaaaGreatDoor
