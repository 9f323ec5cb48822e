/- Names with values copied by the laws. -/
import Derived.Test.YtiffgomkhoalpaaGreatDoorPlEv2
import Derived.Test.YtiffgomkhoalpaaGreatDoorSzV
import Derived.Test.YtiffgomkhoalpaaGreatDoorBx
import Derived.Deep.MidRow
namespace Go.Proofs.YtiffgomkhoalpaaGreatDoor
open Go.RowKit
set_option linter.unusedVariables false
set_option linter.unusedSimpArgs false
abbrev prV (p : Pl.Pr) : Value := .agg #[.string p.nm, .int .i64 p.v.k, .int .i64 p.v.n, .string p.v.t]
theorem box3_after {w w1 : World} {A B C : Obj} (hb : Below (((w.alloc A).alloc B).alloc C).heap.size (((w.alloc A).alloc B).alloc C) w1) :
    w1.heap[w.heap.size]? = some A ∧ w1.heap[w.heap.size + 1]? = some B ∧ w1.heap[w.heap.size + 1 + 1]? = some C ∧ Below w.heap.size w w1 := by
  have e1 : (w.alloc A).heap.size = w.heap.size + 1 := by simp
  have e2 : ((w.alloc A).alloc B).heap.size = w.heap.size + 1 + 1 := by simp
  have e3 : (((w.alloc A).alloc B).alloc C).heap.size = w.heap.size + 1 + 1 + 1 := by simp
  have h3 : Below w.heap.size w (((w.alloc A).alloc B).alloc C) := (((Below.refl _ _).alloc (Nat.le_refl _) A).alloc (by omega) B).alloc (by omega) C
  refine ⟨?_, ?_, ?_, h3.trans (hb.mono h3.size)⟩
  · rw [hb.block _ (by omega), heap_alloc_at, if_neg (by omega), heap_alloc_at, if_neg (by omega), heap_alloc_at, if_pos rfl]
  · rw [hb.block _ (by omega), heap_alloc_at, if_neg (by omega), heap_alloc_at, if_pos (by omega)]
  · rw [hb.block _ (by omega), heap_alloc_at, if_pos (by omega)]
set_option maxHeartbeats 1600000 in
theorem toPair_any (p : Pl.Pr) (w : World) :
    Calls Tryz.prog 33 #[prV p] w fun x w' => x = .returned (prV p) ∧ Below w.heap.size w w' := by
  obtain ⟨nm, vk, vn, vt⟩ := p
  have hv := hide (toValue_any vk vn vt)
  go_enter Tryz.func33, Tryz.ntmps33
  go_wp2_with fail
  refine (hv.out _).mono ?_
  rintro e w1 ⟨rfl, hB1⟩
  obtain ⟨ba, bb, bc, hbl⟩ := box3_after hB1
  have HBA := hide ba
  have HBB := hide bb
  have HBC := hide bc
  have HBL := hide hbl
  have hlt : w.heap.size + 1 + 1 < w1.heap.size := (Array.getElem?_eq_some_iff.1 bc).1
  have a0 := cell_of_block bb 0
  have a1 := cell_of_block bb 1
  have a2 := cell_of_block bb 2
  have a3 := cell_of_block bb 3
  have f0 := free_of_block bb 0
  have f1 := free_of_block bb 1
  have f2 := free_of_block bb 2
  have f3 := free_of_block bb 3
  have c0 := cell_of_block bc 0
  have c1 := cell_of_block bc 1
  have c2 := cell_of_block bc 2
  have c3 := cell_of_block bc 3
  have g0 := free_of_block bc 0
  have g1 := free_of_block bc 1
  have g2 := free_of_block bc 2
  have g3 := free_of_block bc 3
  simp only [List.getElem?_toArray, List.getElem?_cons_zero, List.getElem?_cons_succ] at a0 a1 a2 a3 c0 c1 c2 c3
  clear hB1 ba bb bc hbl hv
  go_wp2
  have hb1 : (((w1.setCell ⟨w.heap.size + 1 + 1, 1, none⟩ (.int .i64 vk)).setCell ⟨w.heap.size + 1 + 1, 2, none⟩ (.int .i64 vn)).setCell ⟨w.heap.size + 1 + 1, 3, none⟩ (.string vt)).heap[w.heap.size + 1]? = some (.cells #[.string ⟨#[]⟩, .int .i64 0, .int .i64 0, .string ⟨#[]⟩] 51 (0, 0)) := by
    rw [Below.heap_setCell _ _ _ _ (by show w.heap.size + 1 ≠ w.heap.size + 1 + 1; omega), Below.heap_setCell _ _ _ _ (by show w.heap.size + 1 ≠ w.heap.size + 1 + 1; omega), Below.heap_setCell _ _ _ _ (by show w.heap.size + 1 ≠ w.heap.size + 1 + 1; omega)]
    exact HBB.out
  have hb2 := block_set (block_set (block_set (block_set hb1 0 (.string nm)) 1 (.int .i64 vk)) 2 (.int .i64 vn)) 3 (.string vt)
  have m0 := cell_of_block hb2 0
  have m1 := cell_of_block hb2 1
  have m2 := cell_of_block hb2 2
  have m3 := cell_of_block hb2 3
  simp at m0 m1 m2 m3
  refine bodyPost_ret (v := prV ⟨nm, vk, vn, vt⟩) (by simp [results, Tryz.results33, go_sem, m0, m1, m2, m3]) rfl ?_
  refine ⟨rfl, ?_⟩
  have q1 : w.heap.size ≤ w.heap.size + 1 := Nat.le_succ _
  have q2 : w.heap.size ≤ w.heap.size + 1 + 1 := by omega
  exact ((((((HBL.out.setCell (p := ⟨w.heap.size + 1 + 1, 1, none⟩) q2 _).setCell (p := ⟨w.heap.size + 1 + 1, 2, none⟩) q2 _).setCell (p := ⟨w.heap.size + 1 + 1, 3, none⟩) q2 _).setCell (p := ⟨w.heap.size + 1, 0, none⟩) q1 _).setCell (p := ⟨w.heap.size + 1, 1, none⟩) q1 _).setCell (p := ⟨w.heap.size + 1, 2, none⟩) q1 _).setCell (p := ⟨w.heap.size + 1, 3, none⟩) q1 _
end Go.Proofs.YtiffgomkhoalpaaGreatDoor
