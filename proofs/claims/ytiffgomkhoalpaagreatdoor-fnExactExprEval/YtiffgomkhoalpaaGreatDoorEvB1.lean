/- A value out of what it holds, and a copy of its own. -/
import Derived.Test.YtiffgomkhoalpaaGreatDoorEvI4
import Derived.Test.YtiffgomkhoalpaaGreatDoorEvS3
import Derived.Test.YtiffgomkhoalpaaGreatDoorVal2a
import Derived.Test.YtiffgomkhoalpaaGreatDoorCln
namespace Go.Proofs.YtiffgomkhoalpaaGreatDoor
open Go.RowKit
set_option linter.unusedVariables false
set_option linter.unusedSimpArgs false
theorem value_cv {v : Va} (h : Pl.okA v = true) (w : World) : Calls Tryz.prog 61 #[cvA v] w fun e w' => e = .returned (vaV v) ∧ Below w.heap.size w w' := by
  rcases cvA_cases h with ⟨h1, rfl⟩ | ⟨n, h1, rfl, _, _⟩ | ⟨t, h1, rfl, _⟩
  · rw [h1]; exact valueOfNone_any w
  · rw [h1]; exact valueOfNum_any n w
  · rw [h1]; exact valueOfText_any t w
theorem okA_size {v : Va} (h : Pl.okA v = true) : v.t.size ≤ 1048576 := by
  rcases Pl.okA_cases h with ⟨_, _, h2⟩ | ⟨_, _, _, h3⟩ | ⟨_, _, h2⟩
  · rw [h2]; decide
  · rw [h3]; decide
  · simp only [Pl.textB, Bool.and_eq_true, decide_eq_true_eq] at h2
    omega
theorem own2_after {w w1 : World} {A B : Obj} (hb : Below ((w.alloc A).alloc B).heap.size ((w.alloc A).alloc B) w1) :
    w1.heap[w.heap.size]? = some A ∧ w1.heap[w.heap.size + 1]? = some B ∧ Below w.heap.size w w1 ∧ w.heap.size + 1 + 1 ≤ w1.heap.size := by
  have e1 : (w.alloc A).heap.size = w.heap.size + 1 := by simp
  have e2 : ((w.alloc A).alloc B).heap.size = w.heap.size + 1 + 1 := by simp
  have hs := hb.size
  rw [e2] at hs
  refine ⟨?_, ?_, ?_, hs⟩
  · rw [hb.block _ (by omega), heap_alloc_at, if_neg (by omega), heap_alloc_at, if_pos rfl]
  · rw [hb.block _ (by omega), heap_alloc_at, if_pos (by omega)]
  · exact (two_below w A B).trans (hb.mono (two_below w A B).size)
set_option maxHeartbeats 800000 in
theorem own_any (k n : Int) (t : ByteArray) (ht : t.size ≤ 2000000) (w : World) :
    Calls Tryz.prog 60 #[.agg #[.int .i64 k, .int .i64 n, .string t]] w fun e w' => e = .returned (.agg #[.int .i64 k, .int .i64 n, .string t]) ∧ Below w.heap.size w w' := by
  have hc := hide (clone_any t (by omega))
  go_enter Tryz.func60, Tryz.ntmps60
  go_wp2_with fail
  refine (hc.out _).mono ?_
  rintro e w1 ⟨rfl, hB1⟩
  obtain ⟨ba, bb, hbl, hsz⟩ := own2_after hB1
  have a0 := cell_of_block ba 0
  have a1 := cell_of_block ba 1
  have a2 := cell_of_block ba 2
  have e2 := free_of_block ba 2
  have r0 := cell_of_block bb 0
  have r1 := cell_of_block bb 1
  have r2 := cell_of_block bb 2
  have f0 := free_of_block bb 0
  have f1 := free_of_block bb 1
  have f2 := free_of_block bb 2
  simp only [List.getElem?_toArray, List.getElem?_cons_zero, List.getElem?_cons_succ] at a0 a1 a2 r0 r1 r2
  have HBB := hide bb
  have HBL := hide hbl
  clear hB1 ba bb hbl
  go_wp2
  have hb1 : (w1.setCell ⟨w.heap.size, 2, none⟩ (.string t)).heap[w.heap.size + 1]? = some (.cells #[.int .i64 0, .int .i64 0, .string ⟨#[]⟩] 30 (0, 0)) := (Below.heap_setCell _ _ _ _ (by show w.heap.size + 1 ≠ w.heap.size; omega)).trans HBB.out
  obtain ⟨m0, m1, m2⟩ := es3 hb1 (.int .i64 k) (.int .i64 n) (.string t)
  refine bodyPost_ret (v := .agg #[.int .i64 k, .int .i64 n, .string t]) (by simp [results, Tryz.results60, go_sem, m0, m1, m2]) rfl ?_
  refine ⟨rfl, ?_⟩
  exact (((HBL.out.setCell (p := ⟨w.heap.size, 2, none⟩) (Nat.le_refl _) _).setCell (p := ⟨w.heap.size + 1, 0, none⟩) (Nat.le_succ _) _).setCell (p := ⟨w.heap.size + 1, 1, none⟩) (Nat.le_succ _) _).setCell (p := ⟨w.heap.size + 1, 2, none⟩) (Nat.le_succ _) _
theorem own_va {v : Va} (h : Pl.okA v = true) (w : World) : Calls Tryz.prog 60 #[vaV v] w fun e w' => e = .returned (vaV v) ∧ Below w.heap.size w w' :=
  own_any v.k v.n v.t (by have := okA_size h; omega) w
end Go.Proofs.YtiffgomkhoalpaaGreatDoor
