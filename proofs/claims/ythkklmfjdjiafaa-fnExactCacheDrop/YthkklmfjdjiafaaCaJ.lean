/- Copies of items of a cache, in memory of their own, as the program makes them: parts. -/
import Derived.Test.YthkklmfjdjiafaaCaG
import Derived.Test.YthkklmfjdjiafaaCln
import Derived.RangeFuncBox
namespace Go.Proofs.Ythkklmfjdjiafaa
open Go.RowKit
set_option linter.unusedVariables false
set_option linter.unusedSimpArgs false
theorem gen_code {P : Program} {c : Code} {Q : Exit → Act → World → Prop} {a : Act} {W : World} (p : World → Prop) (h0 : p W) (h : ∀ X, p X → c.wp P Q a X) : c.wp P Q a W := h W h0
set_option maxHeartbeats 800000 in
theorem ownVal_any (k n : Int) (t : ByteArray) (ht : t.size ≤ 1048576) (w : World) :
    Calls Try.prog 40 #[vAgg k n t] w fun e w' => e = .returned (vAgg k n t) ∧ Below w.heap.size w w' := by
  have hc := hide (clone_any t (by omega))
  go_enter Try.func40, Try.ntmps40
  go_wp2_with fail
  refine (hc.out _).mono ?_
  rintro e w1 ⟨rfl, hB1⟩
  obtain ⟨ba, bb, hbl, hsz⟩ := two_q hB1
  have a0 := cell_of_block ba 0
  have a1 := cell_of_block ba 1
  have a2 := cell_of_block ba 2
  have e2 := free_of_block ba 2
  have r0 := cell_of_block bb 0
  have r1 := cell_of_block bb 1
  have r2 := cell_of_block bb 2
  have f0 := free_of_block bb 0
  have f1 := free_of_block bb 1
  have f2 := free_of_block bb 2
  simp only [List.getElem?_toArray, List.getElem?_cons_zero, List.getElem?_cons_succ] at a0 a1 a2 r0 r1 r2
  have HBB := hide bb
  have HBL := hide hbl
  clear hB1 ba bb hbl
  go_wp2
  have h0 : (w1.setCell ⟨w.heap.size, 2, none⟩ (.string t)).heap[w.heap.size + 1]? = some (.cells #[.int .i64 0, .int .i64 0, .string ⟨#[]⟩] 53 (0, 0)) := qset_other HBB.out (by omega)
  have hbk := block_set (block_set (block_set h0 0 (.int .i64 k)) 1 (.int .i64 n)) 2 (.string t)
  simp only [List.setIfInBounds_toArray, List.set_cons_zero, List.set_cons_succ] at hbk
  have hbl : Below w.heap.size w ((((w1.setCell ⟨w.heap.size, 2, none⟩ (.string t)).setCell ⟨w.heap.size + 1, 0, none⟩ (.int .i64 k)).setCell ⟨w.heap.size + 1, 1, none⟩ (.int .i64 n)).setCell ⟨w.heap.size + 1, 2, none⟩ (.string t)) := by
    refine (((HBL.out.setCell ?_ _).setCell ?_ _).setCell ?_ _).setCell ?_ _ <;> (simp only; omega)
  generalize ((((w1.setCell ⟨w.heap.size, 2, none⟩ (.string t)).setCell ⟨w.heap.size + 1, 0, none⟩ (.int .i64 k)).setCell ⟨w.heap.size + 1, 1, none⟩ (.int .i64 n)).setCell ⟨w.heap.size + 1, 2, none⟩ (.string t)) = W9 at *
  have c0 := cell_of_block hbk 0
  have c1 := cell_of_block hbk 1
  have c2 := cell_of_block hbk 2
  simp only [List.getElem?_toArray, List.getElem?_cons_zero, List.getElem?_cons_succ] at c0 c1 c2
  exact bodyPost_ret (v := vAgg k n t) (by simp [results, Try.results40, go_sem, c0, c1, c2]) rfl ⟨rfl, hbl⟩
/-- what is copied in a box, a place for what is handed back, nothing else turned -/
def OX (T : TypeId) (L : List Value) (w X : World) : Prop := X.heap[w.heap.size]? = some (.cells L.toArray T (0, 0)) ∧ (∃ Z, X.heap[w.heap.size + 1]? = some (.cells Z T (0, 0)) ∧ Z.size = L.length) ∧ Below w.heap.size w X
theorem OX.later {T : TypeId} {L : List Value} {w X X1 : World} (h : OX T L w X) (hB : Below X.heap.size X X1) : OX T L w X1 := by
  obtain ⟨h0, ⟨Z, h1, hZ⟩, hb⟩ := h
  have l0 := (Array.getElem?_eq_some_iff.1 h0).1
  have l1 := (Array.getElem?_eq_some_iff.1 h1).1
  exact ⟨(hB.block _ l0).trans h0, ⟨Z, (hB.block _ l1).trans h1, hZ⟩, hb.trans (hB.mono hb.size)⟩
theorem OX.drew {T : TypeId} {L : List Value} {w X : World} (h : OX T L w X) : OX T L w X.drew := ⟨h.1, h.2.1, h.2.2.drew⟩
/-- a cell of the box written -/
theorem OX.set {T : TypeId} {L L' : List Value} {w X : World} (h : OX T L w X) {i : Nat} {v : Value} (hv : L.set i v = L') : OX T L' w (X.setCell ⟨w.heap.size, i, none⟩ v) := by
  obtain ⟨h0, ⟨Z, h1, hZ⟩, hb⟩ := h
  have := block_set h0 i v
  rw [List.setIfInBounds_toArray, hv] at this
  exact ⟨this, ⟨Z, qset_other h1 (by omega), by rw [hZ, ← hv, List.length_set]⟩, hb.setCell (Nat.le_refl _) _⟩
/-- a cell of what is handed back written -/
theorem OX.res {T : TypeId} {L : List Value} {w X : World} (h : OX T L w X) {i : Nat} {v : Value} : OX T L w (X.setCell ⟨w.heap.size + 1, i, none⟩ v) := by
  obtain ⟨h0, ⟨Z, h1, hZ⟩, hb⟩ := h
  exact ⟨qset_other h0 (by omega), ⟨_, block_set h1 i v, by simp [hZ]⟩, hb.setCell (Nat.le_succ _) _⟩
theorem OX.start (T : TypeId) (L : List Value) (Z : Array Value) (hZ : Z.size = L.length) (w : World) : OX T L w ((w.alloc (.cells L.toArray T)).alloc (.cells Z T)) := by
  have e1 : (w.alloc (.cells L.toArray T)).heap.size = w.heap.size + 1 := by simp
  refine ⟨?_, ⟨Z, ?_, hZ⟩, two_low w _ _⟩
  · rw [heap_alloc_at, if_neg (by omega), heap_alloc_at, if_pos rfl]
  · rw [heap_alloc_at, if_pos (by omega)]
theorem OX.cell {T : TypeId} {L : List Value} {w X : World} (h : OX T L w X) (i : Nat) : X.cell? ⟨w.heap.size, i, none⟩ = L[i]? := by
  rw [cell_of_block h.1]; simp
theorem OX.free {T : TypeId} {L : List Value} {w X : World} (h : OX T L w X) (i : Nat) : X.frozen? ⟨w.heap.size, i, none⟩ = false := free_of_block h.1 i
theorem OX.spot {T : TypeId} {L : List Value} {w X : World} (h : OX T L w X) {i : Nat} (hi : i < L.length) : (∃ u, X.cell? ⟨w.heap.size + 1, i, none⟩ = some u) ∧ X.frozen? ⟨w.heap.size + 1, i, none⟩ = false := by
  obtain ⟨Z, h1, hZ⟩ := h.2.1
  exact ⟨cell_in h1 (by omega), free_of_block h1 i⟩
/-- what is handed back, when all of it was written -/
theorem OX.done {T : TypeId} {L : List Value} {w X : World} (h : OX T L w X) (R : List Value) (hR : R.length = L.length) (g : Nat) (hg : g = w.heap.size + 1) : (X.setCells g 0 R).heap[w.heap.size + 1]? = some (.cells R.toArray T (0, 0)) ∧ Below w.heap.size w (X.setCells g 0 R) := by
  subst hg
  obtain ⟨Z, h1, hZ⟩ := h.2.1
  obtain ⟨C', h3, h4, h5, h6⟩ := qset_block R 0 X Z h1
  refine ⟨?_, qset_below (Nat.le_succ _) _ _ _ h.2.2⟩
  rw [h3]
  congr 2
  apply Array.ext_getElem?
  intro j
  by_cases hj : j < R.length
  · have := h6 (by omega) j R[j] (List.getElem?_eq_getElem hj)
    rw [Nat.zero_add] at this
    rw [this]
    simp [hj]
  · rw [Array.getElem?_eq_none (by omega), Array.getElem?_eq_none (by simpa using hj)]
end Go.Proofs.Ythkklmfjdjiafaa
