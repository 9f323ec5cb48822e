/- The law on what came, walked. -/
import Derived.Test.YtgefkmdnopfbhaaCame2
namespace Go.Proofs.Ytgefkmdnopfbhaa
open Go.RowKit
set_option linter.unusedVariables false

set_option maxHeartbeats 800000 in
theorem szCame_at (k p : Int) (nm : ByteArray) (o : Bool) (vk vn : Int) (vt : ByteArray) (hn : nm.size ≤ maxLen) (ht : vt.size ≤ maxLen) (left : Int) (h0 : 0 ≤ left) (h1 : left ≤ 1048576) (w : World) :
    Calls Try.prog 10 #[cameV k p nm o vk vn vt, .int .i64 left] w fun e w' => (∃ r : Int, e = .returned (.int .i64 r) ∧ -1 ≤ r ∧ r ≤ left) ∧ Below w.heap.size w w' := by
  unfold maxLen at hn
  by_cases h2 : left - nm.size < 0
  · go_enter Try.func10, Try.ntmps10
    go_wp2
    go_ret
    exact ⟨⟨-1, rfl, by omega, by omega⟩, (Below.refl _ _).alloc (Nat.le_refl _) _⟩
  · have hv := hide (szValue_at vk vn vt ht (left - nm.size) (by omega) (by omega))
    go_enter Try.func10, Try.ntmps10
    go_wp2_with fail
    refine (hv.out _).mono ?_
    rintro e w1 ⟨rfl, hB1⟩
    have HB : Below w.heap.size w w1 := ((Below.refl _ _).alloc (Nat.le_refl _) _).trans (hB1.mono (by simp))
    clear hB1 hv
    by_cases h3 : left - nm.size - vt.size < 0
    · rw [if_pos h3]
      go_wp2
      go_ret
      exact ⟨⟨-1, rfl, by omega, by omega⟩, HB⟩
    · rw [if_neg h3]
      go_wp2
      go_ret
      exact ⟨⟨_, rfl, by omega, by omega⟩, HB⟩

set_option maxHeartbeats 1600000 in
theorem toCame_any (k p : Int) (nm : ByteArray) (o : Bool) (vk vn : Int) (vt : ByteArray) (w : World) :
    Calls Try.prog 12 #[cameV k p nm o vk vn vt] w fun e w' => e = .returned (cameV k p nm o vk vn vt) ∧ Below w.heap.size w w' := by
  have hv := hide (toValue_any vk vn vt)
  go_enter Try.func12, Try.ntmps12
  go_wp2_with fail
  refine (hv.out _).mono ?_
  rintro e w1 ⟨rfl, hB1⟩
  obtain ⟨b0, b1, b2, hsz, HB⟩ := boxes3 hB1
  clear hB1 hv
  have o0 : w1.cell? ⟨w.heap.size + 1 + 1, 0, none⟩ = some (.int .i64 k) := cell_of_block b2 0
  have o1 : w1.cell? ⟨w.heap.size + 1 + 1, 1, none⟩ = some (.int .i64 p) := cell_of_block b2 1
  have o2 : w1.cell? ⟨w.heap.size + 1 + 1, 2, none⟩ = some (.string nm) := cell_of_block b2 2
  have o3 : w1.cell? ⟨w.heap.size + 1 + 1, 3, none⟩ = some (.bool o) := cell_of_block b2 3
  have o4 : w1.cell? ⟨w.heap.size + 1 + 1, 4, none⟩ = some (.int .i64 0) := cell_of_block b2 4
  have o5 : w1.cell? ⟨w.heap.size + 1 + 1, 5, none⟩ = some (.int .i64 0) := cell_of_block b2 5
  have o6 : w1.cell? ⟨w.heap.size + 1 + 1, 6, none⟩ = some (.string ⟨#[]⟩) := cell_of_block b2 6
  have f4 := free_of_block b2 4
  have f5 := free_of_block b2 5
  have f6 := free_of_block b2 6
  have p0 : w1.cell? ⟨w.heap.size + 1, 0, none⟩ = some (.int .i64 0) := cell_of_block b1 0
  have p1 : w1.cell? ⟨w.heap.size + 1, 1, none⟩ = some (.int .i64 0) := cell_of_block b1 1
  have p2 : w1.cell? ⟨w.heap.size + 1, 2, none⟩ = some (.string ⟨#[]⟩) := cell_of_block b1 2
  have p3 : w1.cell? ⟨w.heap.size + 1, 3, none⟩ = some (.bool false) := cell_of_block b1 3
  have p4 : w1.cell? ⟨w.heap.size + 1, 4, none⟩ = some (.int .i64 0) := cell_of_block b1 4
  have p5 : w1.cell? ⟨w.heap.size + 1, 5, none⟩ = some (.int .i64 0) := cell_of_block b1 5
  have p6 : w1.cell? ⟨w.heap.size + 1, 6, none⟩ = some (.string ⟨#[]⟩) := cell_of_block b1 6
  have g0 := free_of_block b1 0
  have g1 := free_of_block b1 1
  have g2 := free_of_block b1 2
  have g3 := free_of_block b1 3
  have g4 := free_of_block b1 4
  have g5 := free_of_block b1 5
  have g6 := free_of_block b1 6
  have HBB := hide HB
  have BB1 := hide b1
  clear b0 b1 b2 HB
  go_wp2
  generalize hW : ((((((((((w1.setCell ⟨w.heap.size + 1 + 1, 4, none⟩ (.int .i64 vk)).setCell ⟨w.heap.size + 1 + 1, 5, none⟩ (.int .i64 vn)).setCell ⟨w.heap.size + 1 + 1, 6, none⟩ (.string vt)).setCell ⟨w.heap.size + 1, 0, none⟩ (.int .i64 k)).setCell ⟨w.heap.size + 1, 1, none⟩ (.int .i64 p)).setCell ⟨w.heap.size + 1, 2, none⟩ (.string nm)).setCell ⟨w.heap.size + 1, 3, none⟩ (.bool o)).setCell ⟨w.heap.size + 1, 4, none⟩ (.int .i64 vk)).setCell ⟨w.heap.size + 1, 5, none⟩ (.int .i64 vn)).setCell ⟨w.heap.size + 1, 6, none⟩ (.string vt)) = W9
  have hbl : Below w.heap.size w W9 := by
    rw [← hW]
    refine ((((((((((HBB.out.setCell ?_ _).setCell ?_ _).setCell ?_ _).setCell ?_ _).setCell ?_ _).setCell ?_ _).setCell ?_ _).setCell ?_ _).setCell ?_ _).setCell ?_ _) <;> (simp only; omega)
  have hbk : W9.heap[w.heap.size + 1]? = some (.cells #[.int .i64 k, .int .i64 p, .string nm, .bool o, .int .i64 vk, .int .i64 vn, .string vt] 38 (0, 0)) := by
    have h0 : (((w1.setCell ⟨w.heap.size + 1 + 1, 4, none⟩ (.int .i64 vk)).setCell ⟨w.heap.size + 1 + 1, 5, none⟩ (.int .i64 vn)).setCell ⟨w.heap.size + 1 + 1, 6, none⟩ (.string vt)).heap[w.heap.size + 1]? = some (.cells #[.int .i64 0, .int .i64 0, .string ⟨#[]⟩, .bool false, .int .i64 0, .int .i64 0, .string ⟨#[]⟩] 38 (0, 0)) := by
      rw [Below.heap_setCell _ _ _ _ (by simp only; omega), Below.heap_setCell _ _ _ _ (by simp only; omega), Below.heap_setCell _ _ _ _ (by simp only; omega)]; exact BB1.out
    rw [← hW, block_set (block_set (block_set (block_set (block_set (block_set (block_set h0 0 _) 1 _) 2 _) 3 _) 4 _) 5 _) 6 _]
    rfl
  clear hW
  have c0 := cell_of_block hbk 0
  have c1 := cell_of_block hbk 1
  have c2 := cell_of_block hbk 2
  have c3 := cell_of_block hbk 3
  have c4 := cell_of_block hbk 4
  have c5 := cell_of_block hbk 5
  have c6 := cell_of_block hbk 6
  simp only [List.getElem?_toArray, List.getElem?_cons_zero, List.getElem?_cons_succ] at c0 c1 c2 c3 c4 c5 c6
  exact bodyPost_ret (v := cameV k p nm o vk vn vt) (by simp [results, Try.results12, go_sem, c0, c1, c2, c3, c4, c5, c6]) rfl ⟨rfl, hbl⟩

set_option maxHeartbeats 1600000 in
theorem lawCameOk_any (k p : Int) (nm : ByteArray) (o : Bool) (vk vn : Int) (vt : ByteArray) (hn : nm.size ≤ maxLen) (ht : vt.size ≤ maxLen) (w : World) :
    Calls Try.prog 4 #[cameV k p nm o vk vn vt] w fun e w' => e = .returned (.bool true) ∧ Below w.heap.size w w' := by
  have hs := hide (szCame_at k p nm o vk vn vt hn ht 1048576 (by omega) (by omega))
  have hto := hide (toCame_any k p nm o vk vn vt)
  have hsp := hide (specCameOk_any k p nm o vk vn vt hn ht)
  have him := hide (implCameOk_any k p nm o vk vn vt hn ht)
  generalize Pl.cameB k p nm o vk vn vt = b at hsp him
  go_enter Try.func4, Try.ntmps4
  go_wp2_with fail
  refine (hs.out _).mono ?_
  rintro e w1 ⟨⟨r, rfl, hr0, hr1⟩, hB1⟩
  have HX1 := hide (BoxSeven.mk hB1)
  have HB1 := hide (below_box1 hB1)
  clear hB1 hs
  by_cases h0 : r < 0
  · go_wp2
    go_ret
    exact ⟨rfl, HB1.out⟩
  · obtain ⟨z1, c0, c1, c2, c3, c4, c5, c6⟩ := HX1.out
    go_wp2_with fail
    refine (hto.out _).mono ?_
    rintro e w2 ⟨rfl, hB2⟩
    have HX2 := hide (HX1.out.later hB2)
    have HB2 := hide (HB1.out.trans (hB2.mono HB1.out.size))
    clear hB2 HX1 HB1 c0 c1 c2 c3 c4 c5 c6 z1
    go_wp2_with fail
    refine (hsp.out _).mono ?_
    rintro e w3 ⟨rfl, hB3⟩
    have HX3 := hide (HX2.out.later hB3)
    have HB3 := hide (HB2.out.trans (hB3.mono HB2.out.size))
    clear hB3 HX2 HB2
    obtain ⟨z1, c0, c1, c2, c3, c4, c5, c6⟩ := HX3.out
    go_wp2_with fail
    refine (hto.out _).mono ?_
    rintro e w4 ⟨rfl, hB4⟩
    have HB4 := hide (HB3.out.trans (hB4.mono HB3.out.size))
    clear hB4 HX3 HB3 c0 c1 c2 c3 c4 c5 c6 z1
    go_wp2_with fail
    refine (him.out _).mono ?_
    rintro e w5 ⟨rfl, hB5⟩
    have HB5 := hide (HB4.out.trans (hB5.mono HB4.out.size))
    clear hB5 HB4
    cases b
    all_goals
      go_wp2
      go_ret
      exact ⟨rfl, HB5.out⟩
end Go.Proofs.Ytgefkmdnopfbhaa
