/- An act: whether it is ok, in plain words; counted and copied by the laws. -/
import Derived.Test.YtbckbfjnifafaaaGreatDoorCame1
namespace Go.Proofs.YtbckbfjnifafaaaGreatDoor
open Go.RowKit
set_option linter.unusedVariables false
set_option linter.unusedSimpArgs false

abbrev actL (k r p : Int) (nm : ByteArray) (o : Bool) (vk vn : Int) (vt : ByteArray) (m : Int) : List Value := [.int .i64 k, .int .i64 r, .int .i64 p, .string nm, .bool o, .int .i64 vk, .int .i64 vn, .string vt, .int .i64 m]
abbrev actV (k r p : Int) (nm : ByteArray) (o : Bool) (vk vn : Int) (vt : ByteArray) (m : Int) : Value := .agg #[.int .i64 k, .int .i64 r, .int .i64 p, .string nm, .bool o, .int .i64 vk, .int .i64 vn, .string vt, .int .i64 m]
def Pl.runB (r : Int) : Bool := decide (0 ≤ r) && decide (r ≤ 7)
def Pl.tickB (m : Int) : Bool := decide (1 ≤ m) && decide (m ≤ 1000)
/-- whether an act has a form, in plain words -/
def Pl.actB (k r p : Int) (nm : ByteArray) (o : Bool) (vk vn : Int) (vt : ByteArray) (m : Int) : Bool :=
  if k = 1 then (r == 0 && (p == 0 && (o && m == 0))) && (Pl.nameB nm && Pl.okB vk vn vt)
  else if k = 2 then (p == 0 && (o && m == 0)) && (Pl.runB r && (Pl.nameB nm && Pl.okB vk vn vt))
  else if k = 3 then (nm.toList.isEmpty && m == 0) && (Pl.runB r && (Pl.placeB p && (Pl.okB vk vn vt && (o || Pl.noVal vk vn vt))))
  else if k = 4 then (p == 0 && (nm.toList.isEmpty && (o && (Pl.noVal vk vn vt && m == 0)))) && Pl.runB r
  else if k = 5 then (r == 0 && (p == 0 && (nm.toList.isEmpty && (o && Pl.noVal vk vn vt)))) && Pl.tickB m
  else false

/-- the nine cells of a box -/
def BoxNine (b : Nat) (x0 x1 x2 x3 x4 x5 x6 x7 x8 : Value) (w : World) : Prop :=
  b < w.heap.size ∧ w.cell? ⟨b, 0, none⟩ = some x0 ∧ w.cell? ⟨b, 1, none⟩ = some x1 ∧ w.cell? ⟨b, 2, none⟩ = some x2 ∧ w.cell? ⟨b, 3, none⟩ = some x3 ∧ w.cell? ⟨b, 4, none⟩ = some x4 ∧ w.cell? ⟨b, 5, none⟩ = some x5 ∧ w.cell? ⟨b, 6, none⟩ = some x6 ∧ w.cell? ⟨b, 7, none⟩ = some x7 ∧ w.cell? ⟨b, 8, none⟩ = some x8
theorem BoxNine.at {B : Nat} {w w1 : World} {x0 x1 x2 x3 x4 x5 x6 x7 x8 : Value} {T : TypeId} (hb : Below B (w.alloc (.cells #[x0, x1, x2, x3, x4, x5, x6, x7, x8] T)) w1) (h : w.heap.size < B) : BoxNine w.heap.size x0 x1 x2 x3 x4 x5 x6 x7 x8 w1 := by
  have C : ∀ o, w1.cell? ⟨w.heap.size, o, none⟩ = (#[x0, x1, x2, x3, x4, x5, x6, x7, x8] : Array Value)[o]? := fun o => by rw [hb.cell (p := ⟨w.heap.size, o, none⟩) h]; simp
  exact ⟨by have := hb.size; simp at this; omega, C 0, C 1, C 2, C 3, C 4, C 5, C 6, C 7, C 8⟩
theorem BoxNine.mk {w w1 : World} {x0 x1 x2 x3 x4 x5 x6 x7 x8 : Value} {T : TypeId} (hb : Below (w.alloc (.cells #[x0, x1, x2, x3, x4, x5, x6, x7, x8] T)).heap.size (w.alloc (.cells #[x0, x1, x2, x3, x4, x5, x6, x7, x8] T)) w1) : BoxNine w.heap.size x0 x1 x2 x3 x4 x5 x6 x7 x8 w1 := BoxNine.at hb (by simp)
theorem BoxNine.later {b : Nat} {x0 x1 x2 x3 x4 x5 x6 x7 x8 : Value} {w w1 : World} (h : BoxNine b x0 x1 x2 x3 x4 x5 x6 x7 x8 w) (hB : Below w.heap.size w w1) : BoxNine b x0 x1 x2 x3 x4 x5 x6 x7 x8 w1 := by
  obtain ⟨hb, h0, h1, h2, h3, h4, h5, h6, h7, h8⟩ := h
  have C : ∀ o, w1.cell? ⟨b, o, none⟩ = w.cell? ⟨b, o, none⟩ := fun o => hB.cell (p := ⟨b, o, none⟩) hb
  exact ⟨by have := hB.size; omega, (C _).trans h0, (C _).trans h1, (C _).trans h2, (C _).trans h3, (C _).trans h4, (C _).trans h5, (C _).trans h6, (C _).trans h7, (C _).trans h8⟩

set_option maxHeartbeats 800000 in
theorem szAct_at (k r p : Int) (nm : ByteArray) (o : Bool) (vk vn : Int) (vt : ByteArray) (m : Int) (hn : nm.size ≤ maxLen) (ht : vt.size ≤ maxLen) (left : Int) (h0 : 0 ≤ left) (h1 : left ≤ 1048576) (w : World) :
    Calls Tryz.prog 18 #[actV k r p nm o vk vn vt m, .int .i64 left] w fun e w' => (∃ z : Int, e = .returned (.int .i64 z) ∧ -1 ≤ z ∧ z ≤ left) ∧ Below w.heap.size w w' := by
  unfold maxLen at hn
  by_cases h2 : left - nm.size < 0
  · go_enter Tryz.func18, Tryz.ntmps18
    go_wp2
    go_ret
    exact ⟨⟨-1, rfl, by omega, by omega⟩, (Below.refl _ _).alloc (Nat.le_refl _) _⟩
  · have hv := hide (szValue_at vk vn vt ht (left - nm.size) (by omega) (by omega))
    go_enter Tryz.func18, Tryz.ntmps18
    go_wp2_with fail
    refine (hv.out _).mono ?_
    rintro e w1 ⟨rfl, hB1⟩
    have HB : Below w.heap.size w w1 := ((Below.refl _ _).alloc (Nat.le_refl _) _).trans (hB1.mono (by simp))
    clear hB1 hv
    by_cases h3 : left - nm.size - vt.size < 0
    · rw [if_pos h3]
      go_wp2
      go_ret
      exact ⟨⟨-1, rfl, by omega, by omega⟩, HB⟩
    · rw [if_neg h3]
      go_wp2
      go_ret
      exact ⟨⟨_, rfl, by omega, by omega⟩, HB⟩

set_option maxHeartbeats 1600000 in
theorem toAct_any (k r p : Int) (nm : ByteArray) (o : Bool) (vk vn : Int) (vt : ByteArray) (m : Int) (w : World) :
    Calls Tryz.prog 20 #[actV k r p nm o vk vn vt m] w fun e w' => e = .returned (actV k r p nm o vk vn vt m) ∧ Below w.heap.size w w' := by
  have hv := hide (toValue_any vk vn vt)
  go_enter Tryz.func20, Tryz.ntmps20
  go_wp2_with fail
  refine (hv.out _).mono ?_
  rintro e w1 ⟨rfl, hB1⟩
  obtain ⟨b0, b1, b2, hsz, HB⟩ := boxes3 hB1
  clear hB1 hv
  have i8 : w1.cell? ⟨w.heap.size, 8, none⟩ = some (.int .i64 m) := cell_of_block b0 8
  have o0 : w1.cell? ⟨w.heap.size + 1 + 1, 0, none⟩ = some (.int .i64 k) := cell_of_block b2 0
  have o1 : w1.cell? ⟨w.heap.size + 1 + 1, 1, none⟩ = some (.int .i64 r) := cell_of_block b2 1
  have o2 : w1.cell? ⟨w.heap.size + 1 + 1, 2, none⟩ = some (.int .i64 p) := cell_of_block b2 2
  have o3 : w1.cell? ⟨w.heap.size + 1 + 1, 3, none⟩ = some (.string nm) := cell_of_block b2 3
  have o4 : w1.cell? ⟨w.heap.size + 1 + 1, 4, none⟩ = some (.bool o) := cell_of_block b2 4
  have o5 : w1.cell? ⟨w.heap.size + 1 + 1, 5, none⟩ = some (.int .i64 0) := cell_of_block b2 5
  have o6 : w1.cell? ⟨w.heap.size + 1 + 1, 6, none⟩ = some (.int .i64 0) := cell_of_block b2 6
  have o7 : w1.cell? ⟨w.heap.size + 1 + 1, 7, none⟩ = some (.string ⟨#[]⟩) := cell_of_block b2 7
  have o8 : w1.cell? ⟨w.heap.size + 1 + 1, 8, none⟩ = some (.int .i64 0) := cell_of_block b2 8
  have f5 := free_of_block b2 5
  have f6 := free_of_block b2 6
  have f7 := free_of_block b2 7
  have f8 := free_of_block b2 8
  have p0 : w1.cell? ⟨w.heap.size + 1, 0, none⟩ = some (.int .i64 0) := cell_of_block b1 0
  have p1 : w1.cell? ⟨w.heap.size + 1, 1, none⟩ = some (.int .i64 0) := cell_of_block b1 1
  have p2 : w1.cell? ⟨w.heap.size + 1, 2, none⟩ = some (.int .i64 0) := cell_of_block b1 2
  have p3 : w1.cell? ⟨w.heap.size + 1, 3, none⟩ = some (.string ⟨#[]⟩) := cell_of_block b1 3
  have p4 : w1.cell? ⟨w.heap.size + 1, 4, none⟩ = some (.bool false) := cell_of_block b1 4
  have p5 : w1.cell? ⟨w.heap.size + 1, 5, none⟩ = some (.int .i64 0) := cell_of_block b1 5
  have p6 : w1.cell? ⟨w.heap.size + 1, 6, none⟩ = some (.int .i64 0) := cell_of_block b1 6
  have p7 : w1.cell? ⟨w.heap.size + 1, 7, none⟩ = some (.string ⟨#[]⟩) := cell_of_block b1 7
  have p8 : w1.cell? ⟨w.heap.size + 1, 8, none⟩ = some (.int .i64 0) := cell_of_block b1 8
  have g0 := free_of_block b1 0
  have g1 := free_of_block b1 1
  have g2 := free_of_block b1 2
  have g3 := free_of_block b1 3
  have g4 := free_of_block b1 4
  have g5 := free_of_block b1 5
  have g6 := free_of_block b1 6
  have g7 := free_of_block b1 7
  have g8 := free_of_block b1 8
  have HBB := hide HB
  have BB1 := hide b1
  clear b0 b1 b2 HB
  go_wp2
  generalize hW : (((((((((((((w1.setCell ⟨w.heap.size + 1 + 1, 5, none⟩ (.int .i64 vk)).setCell ⟨w.heap.size + 1 + 1, 6, none⟩ (.int .i64 vn)).setCell ⟨w.heap.size + 1 + 1, 7, none⟩ (.string vt)).setCell ⟨w.heap.size + 1 + 1, 8, none⟩ (.int .i64 m)).setCell ⟨w.heap.size + 1, 0, none⟩ (.int .i64 k)).setCell ⟨w.heap.size + 1, 1, none⟩ (.int .i64 r)).setCell ⟨w.heap.size + 1, 2, none⟩ (.int .i64 p)).setCell ⟨w.heap.size + 1, 3, none⟩ (.string nm)).setCell ⟨w.heap.size + 1, 4, none⟩ (.bool o)).setCell ⟨w.heap.size + 1, 5, none⟩ (.int .i64 vk)).setCell ⟨w.heap.size + 1, 6, none⟩ (.int .i64 vn)).setCell ⟨w.heap.size + 1, 7, none⟩ (.string vt)).setCell ⟨w.heap.size + 1, 8, none⟩ (.int .i64 m)) = W9
  have hbl : Below w.heap.size w W9 := by
    rw [← hW]
    refine (((((((((((((HBB.out.setCell ?_ _).setCell ?_ _).setCell ?_ _).setCell ?_ _).setCell ?_ _).setCell ?_ _).setCell ?_ _).setCell ?_ _).setCell ?_ _).setCell ?_ _).setCell ?_ _).setCell ?_ _).setCell ?_ _) <;> (simp only; omega)
  have hbk : W9.heap[w.heap.size + 1]? = some (.cells #[.int .i64 k, .int .i64 r, .int .i64 p, .string nm, .bool o, .int .i64 vk, .int .i64 vn, .string vt, .int .i64 m] 45 (0, 0)) := by
    have h0 : ((((w1.setCell ⟨w.heap.size + 1 + 1, 5, none⟩ (.int .i64 vk)).setCell ⟨w.heap.size + 1 + 1, 6, none⟩ (.int .i64 vn)).setCell ⟨w.heap.size + 1 + 1, 7, none⟩ (.string vt)).setCell ⟨w.heap.size + 1 + 1, 8, none⟩ (.int .i64 m)).heap[w.heap.size + 1]? = some (.cells #[.int .i64 0, .int .i64 0, .int .i64 0, .string ⟨#[]⟩, .bool false, .int .i64 0, .int .i64 0, .string ⟨#[]⟩, .int .i64 0] 45 (0, 0)) := by
      rw [Below.heap_setCell _ _ _ _ (by simp only; omega), Below.heap_setCell _ _ _ _ (by simp only; omega), Below.heap_setCell _ _ _ _ (by simp only; omega), Below.heap_setCell _ _ _ _ (by simp only; omega)]; exact BB1.out
    have h1 := block_set h0 0 (.int .i64 k)
    have h2 := block_set h1 1 (.int .i64 r)
    have h3 := block_set h2 2 (.int .i64 p)
    have h4 := block_set h3 3 (.string nm)
    have h5 := block_set h4 4 (.bool o)
    have h6 := block_set h5 5 (.int .i64 vk)
    have h7 := block_set h6 6 (.int .i64 vn)
    have h8 := block_set h7 7 (.string vt)
    have h9 := block_set h8 8 (.int .i64 m)
    rw [← hW, h9]
    rfl
  clear hW
  have c0 := cell_of_block hbk 0
  have c1 := cell_of_block hbk 1
  have c2 := cell_of_block hbk 2
  have c3 := cell_of_block hbk 3
  have c4 := cell_of_block hbk 4
  have c5 := cell_of_block hbk 5
  have c6 := cell_of_block hbk 6
  have c7 := cell_of_block hbk 7
  have c8 := cell_of_block hbk 8
  simp only [List.getElem?_toArray, List.getElem?_cons_zero, List.getElem?_cons_succ] at c0 c1 c2 c3 c4 c5 c6 c7 c8
  exact bodyPost_ret (v := actV k r p nm o vk vn vt m) (by simp [results, Tryz.results20, go_sem, c0, c1, c2, c3, c4, c5, c6, c7, c8]) rfl ⟨rfl, hbl⟩
end Go.Proofs.YtbckbfjnifafaaaGreatDoor
