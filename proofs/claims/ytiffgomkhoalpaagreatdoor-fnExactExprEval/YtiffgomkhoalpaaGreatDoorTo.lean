/- An expression copied, as the laws copy it. -/
import Derived.Test.YtiffgomkhoalpaaGreatDoorSk
import Derived.Test.YtiffgomkhoalpaaGreatDoorSz
namespace Go.Proofs.YtiffgomkhoalpaaGreatDoor
open Go.RowKit
set_option linter.unusedVariables false

def ToPost (F : Fo) (w : World) (e : Ending) (w' : World) : Prop := ∃ v, e = .returned v ∧ RowAt w.heap.size w' F v ∧ SkRow w.heap.size w'.heap.size w' F v ∧ Below w.heap.size w w'
def ToP (F : Fo) : Prop := ∀ (v : Value) (w : World), F.len ≤ 1048576 → F.Sm → RowAt 0 w F v → Calls Tryz.prog 32 #[v] w (ToPost F w)
def NdPost (nd : Nd) (k : Fo) (w : World) (e : Ending) (w' : World) : Prop := ∃ v, e = .returned (ndV nd v) ∧ RowAt w.heap.size w' k v ∧ SkRow w.heap.size w'.heap.size w' k v ∧ Below w.heap.size w w'

set_option maxHeartbeats 800000 in
theorem toExpr_of (nd : Nd) (k : Fo) (hk : ToP k) (hl : k.len ≤ 1048576) (hs : k.Sm) (v : Value) (w : World) (hr : RowAt 0 w k v) :
    Calls Tryz.prog 12 #[ndV nd v] w (NdPost nd k w) := by
  obtain ⟨nk, vk, vn, vt, nm⟩ := nd
  have hv := hide (toValue_any vk vn vt)
  have HR := hide hr
  clear hr
  go_enter Tryz.func12, Tryz.ntmps12
  go_wp2_with fail
  refine (hv.out _).mono ?_
  rintro e w1 ⟨rfl, hB1⟩
  obtain ⟨b0, b1, b2, hsz, HB⟩ := boxes3 hB1
  clear hB1 hv
  have a4 : w1.cell? ⟨w.heap.size, 4, none⟩ = some (.string nm) := cell_of_block b0 4
  have a5 : w1.cell? ⟨w.heap.size, 5, none⟩ = some v := cell_of_block b0 5
  have o0 : w1.cell? ⟨w.heap.size + 1 + 1, 0, none⟩ = some (.int .i64 nk) := cell_of_block b2 0
  have o1 : w1.cell? ⟨w.heap.size + 1 + 1, 1, none⟩ = some (.int .i64 0) := cell_of_block b2 1
  have o2 : w1.cell? ⟨w.heap.size + 1 + 1, 2, none⟩ = some (.int .i64 0) := cell_of_block b2 2
  have o3 : w1.cell? ⟨w.heap.size + 1 + 1, 3, none⟩ = some (.string ⟨#[]⟩) := cell_of_block b2 3
  have o4 : w1.cell? ⟨w.heap.size + 1 + 1, 4, none⟩ = some (.string ⟨#[]⟩) := cell_of_block b2 4
  have o5 : w1.cell? ⟨w.heap.size + 1 + 1, 5, none⟩ = some (.slice none 0 0) := cell_of_block b2 5
  have f1 := free_of_block b2 1
  have f2 := free_of_block b2 2
  have f3 := free_of_block b2 3
  have f4 := free_of_block b2 4
  have B0 := hide b0
  have B1 := hide b1
  have B2 := hide b2
  have HBB := hide HB
  clear b0 b1 b2 HB
  go_wp2_with fail
  generalize hW2 : (((w1.setCell ⟨w.heap.size + 1 + 1, 1, none⟩ (.int .i64 vk)).setCell ⟨w.heap.size + 1 + 1, 2, none⟩ (.int .i64 vn)).setCell ⟨w.heap.size + 1 + 1, 3, none⟩ (.string vt)).setCell ⟨w.heap.size + 1 + 1, 4, none⟩ (.string nm) = W2
  have HB2 : Below w.heap.size w W2 := by
    rw [← hW2]
    exact (((HBB.out.setCell (by show w.heap.size ≤ w.heap.size + 1 + 1; omega) _).setCell (by show w.heap.size ≤ w.heap.size + 1 + 1; omega) _).setCell (by show w.heap.size ≤ w.heap.size + 1 + 1; omega) _).setCell (by show w.heap.size ≤ w.heap.size + 1 + 1; omega) _
  have hs2 : w.heap.size + 1 + 1 + 1 ≤ W2.heap.size := by rw [← hW2]; simp [World.setCell]; omega
  have q2 : W2.heap[w.heap.size + 1 + 1]? = some (.cells #[.int .i64 nk, .int .i64 vk, .int .i64 vn, .string vt, .string nm, .slice none 0 0] 35 (0, 0)) := by
    rw [← hW2, block_set (block_set (block_set (block_set B2.out 1 _) 2 _) 3 _) 4 _]
    rfl
  have q1 : W2.heap[w.heap.size + 1]? = w1.heap[w.heap.size + 1]? := by
    rw [← hW2, Below.heap_setCell _ _ _ _ (by show w.heap.size + 1 ≠ w.heap.size + 1 + 1; omega), Below.heap_setCell _ _ _ _ (by show w.heap.size + 1 ≠ w.heap.size + 1 + 1; omega), Below.heap_setCell _ _ _ _ (by show w.heap.size + 1 ≠ w.heap.size + 1 + 1; omega), Below.heap_setCell _ _ _ _ (by show w.heap.size + 1 ≠ w.heap.size + 1 + 1; omega)]
  rw [B1.out] at q1
  clear hW2 a4 a5 o0 o1 o2 o3 o4 o5 f1 f2 f3 f4 hsz B0 B1 B2 HBB
  have Q1 := hide q1
  have Q2 := hide q2
  clear q1 q2
  refine (hk v W2 hl hs (HR.out.later HB2)).mono ?_
  rintro e w3 ⟨v', rfl, hr3, hsk3, hB3⟩
  have b1 := hB3.block (w.heap.size + 1) (by omega)
  have b2 := hB3.block (w.heap.size + 1 + 1) (by omega)
  rw [Q1.out] at b1
  rw [Q2.out] at b2
  have HB3 : Hid (Below w.heap.size w w3) := HB2.trans (hB3.mono HB2.size)
  have HR3 : Hid (RowAt (w.heap.size + 1 + 1 + 1) w3 k v') := hr3.low hs2
  have HSK3 : Hid (SkRow (w.heap.size + 1 + 1 + 1) w3.heap.size w3 k v') := hsk3.low hs2
  clear hsk3
  obtain ⟨ad', cap', rfl, _, _, _⟩ := hr3
  have hs3 : w.heap.size + 1 + 1 + 1 ≤ w3.heap.size := by have := hB3.size; omega
  clear hk hB3 HB2 Q1 Q2 HR hs2
  have o0 : w3.cell? ⟨w.heap.size + 1 + 1, 0, none⟩ = some (.int .i64 nk) := cell_of_block b2 0
  have o1 : w3.cell? ⟨w.heap.size + 1 + 1, 1, none⟩ = some (.int .i64 vk) := cell_of_block b2 1
  have o2 : w3.cell? ⟨w.heap.size + 1 + 1, 2, none⟩ = some (.int .i64 vn) := cell_of_block b2 2
  have o3 : w3.cell? ⟨w.heap.size + 1 + 1, 3, none⟩ = some (.string vt) := cell_of_block b2 3
  have o4 : w3.cell? ⟨w.heap.size + 1 + 1, 4, none⟩ = some (.string nm) := cell_of_block b2 4
  have o5 : w3.cell? ⟨w.heap.size + 1 + 1, 5, none⟩ = some (.slice none 0 0) := cell_of_block b2 5
  have f5 := free_of_block b2 5
  have p0 := cell_of_block b1 0
  have p1 := cell_of_block b1 1
  have p2 := cell_of_block b1 2
  have p3 := cell_of_block b1 3
  have p4 := cell_of_block b1 4
  have p5 := cell_of_block b1 5
  have r0 := free_of_block b1 0
  have r1 := free_of_block b1 1
  have r2 := free_of_block b1 2
  have r3 := free_of_block b1 3
  have r4 := free_of_block b1 4
  have r5 := free_of_block b1 5
  simp only [List.getElem?_toArray, List.getElem?_cons_zero, List.getElem?_cons_succ] at p0 p1 p2 p3 p4 p5
  have BB1 := hide b1
  clear b1 b2
  generalize k.len = kl at *
  go_wp2
  have hov : Hid (Over (w.heap.size + 1 + 1 + 1) w3 (((((((w3.setCell ⟨w.heap.size + 1 + 1, 5, none⟩ (.slice ad' kl cap')).setCell ⟨w.heap.size + 1, 0, none⟩ (.int .i64 nk)).setCell ⟨w.heap.size + 1, 1, none⟩ (.int .i64 vk)).setCell ⟨w.heap.size + 1, 2, none⟩ (.int .i64 vn)).setCell ⟨w.heap.size + 1, 3, none⟩ (.string vt)).setCell ⟨w.heap.size + 1, 4, none⟩ (.string nm)).setCell ⟨w.heap.size + 1, 5, none⟩ (.slice ad' kl cap'))) := by
    refine over_set (over_set (over_set (over_set (over_set (over_set (over_set (over_refl _ _) ?_ _) ?_ _) ?_ _) ?_ _) ?_ _) ?_ _) ?_ _ <;> (simp only; omega)
  have hob : Hid (∀ g, w.heap.size + 1 + 1 + 1 ≤ g → g < w3.heap.size → (((((((w3.setCell ⟨w.heap.size + 1 + 1, 5, none⟩ (.slice ad' kl cap')).setCell ⟨w.heap.size + 1, 0, none⟩ (.int .i64 nk)).setCell ⟨w.heap.size + 1, 1, none⟩ (.int .i64 vk)).setCell ⟨w.heap.size + 1, 2, none⟩ (.int .i64 vn)).setCell ⟨w.heap.size + 1, 3, none⟩ (.string vt)).setCell ⟨w.heap.size + 1, 4, none⟩ (.string nm)).setCell ⟨w.heap.size + 1, 5, none⟩ (.slice ad' kl cap')).heap[g]? = w3.heap[g]?) := by
    refine hide fun g hl hg => ?_
    rw [Below.heap_setCell _ _ _ _ (by show g ≠ w.heap.size + 1; omega), Below.heap_setCell _ _ _ _ (by show g ≠ w.heap.size + 1; omega), Below.heap_setCell _ _ _ _ (by show g ≠ w.heap.size + 1; omega), Below.heap_setCell _ _ _ _ (by show g ≠ w.heap.size + 1; omega), Below.heap_setCell _ _ _ _ (by show g ≠ w.heap.size + 1; omega), Below.heap_setCell _ _ _ _ (by show g ≠ w.heap.size + 1; omega), Below.heap_setCell _ _ _ _ (by show g ≠ w.heap.size + 1 + 1; omega)]
  have hbl : Hid (Below w.heap.size w (((((((w3.setCell ⟨w.heap.size + 1 + 1, 5, none⟩ (.slice ad' kl cap')).setCell ⟨w.heap.size + 1, 0, none⟩ (.int .i64 nk)).setCell ⟨w.heap.size + 1, 1, none⟩ (.int .i64 vk)).setCell ⟨w.heap.size + 1, 2, none⟩ (.int .i64 vn)).setCell ⟨w.heap.size + 1, 3, none⟩ (.string vt)).setCell ⟨w.heap.size + 1, 4, none⟩ (.string nm)).setCell ⟨w.heap.size + 1, 5, none⟩ (.slice ad' kl cap'))) := by
    refine ((((((HB3.out.setCell ?_ _).setCell ?_ _).setCell ?_ _).setCell ?_ _).setCell ?_ _).setCell ?_ _).setCell ?_ _ <;> (simp only; omega)
  have hbk : (((((((w3.setCell ⟨w.heap.size + 1 + 1, 5, none⟩ (.slice ad' kl cap')).setCell ⟨w.heap.size + 1, 0, none⟩ (.int .i64 nk)).setCell ⟨w.heap.size + 1, 1, none⟩ (.int .i64 vk)).setCell ⟨w.heap.size + 1, 2, none⟩ (.int .i64 vn)).setCell ⟨w.heap.size + 1, 3, none⟩ (.string vt)).setCell ⟨w.heap.size + 1, 4, none⟩ (.string nm)).setCell ⟨w.heap.size + 1, 5, none⟩ (.slice ad' kl cap')).heap[w.heap.size + 1]? = some (.cells #[.int .i64 nk, .int .i64 vk, .int .i64 vn, .string vt, .string nm, .slice ad' kl cap'] 35 (0, 0)) := by
    have h0 : (w3.setCell ⟨w.heap.size + 1 + 1, 5, none⟩ (.slice ad' kl cap')).heap[w.heap.size + 1]? = _ := (Below.heap_setCell _ _ _ _ (by simp only; omega)).trans BB1.out
    rw [block_set (block_set (block_set (block_set (block_set (block_set h0 0 _) 1 _) 2 _) 3 _) 4 _) 5 _]
    rfl
  generalize (((((((w3.setCell ⟨w.heap.size + 1 + 1, 5, none⟩ (.slice ad' kl cap')).setCell ⟨w.heap.size + 1, 0, none⟩ (.int .i64 nk)).setCell ⟨w.heap.size + 1, 1, none⟩ (.int .i64 vk)).setCell ⟨w.heap.size + 1, 2, none⟩ (.int .i64 vn)).setCell ⟨w.heap.size + 1, 3, none⟩ (.string vt)).setCell ⟨w.heap.size + 1, 4, none⟩ (.string nm)).setCell ⟨w.heap.size + 1, 5, none⟩ (.slice ad' kl cap')) = W9 at *
  have c0 := cell_of_block hbk 0
  have c1 := cell_of_block hbk 1
  have c2 := cell_of_block hbk 2
  have c3 := cell_of_block hbk 3
  have c4 := cell_of_block hbk 4
  have c5 := cell_of_block hbk 5
  simp only [List.getElem?_toArray, List.getElem?_cons_zero, List.getElem?_cons_succ] at c0 c1 c2 c3 c4 c5
  refine bodyPost_ret (v := ndV ⟨nk, vk, vn, vt, nm⟩ (.slice ad' kl cap')) (by simp [results, Tryz.results12, go_sem, c0, c1, c2, c3, c4, c5]) rfl ?_
  exact ⟨_, rfl, (HR3.out.over hov.out).low (by omega), (HSK3.out.over hob.out hov.out.1).low (by omega), hbl.out⟩

theorem infoExpr : (Tryz.prog.info? 35).map (fun i => (i.zero, i.size, i.bytes)) = some (some (.agg #[.int .i64 0, .int .i64 0, .int .i64 0, .string ⟨#[]⟩, .string ⟨#[]⟩, .slice none 0 0]), 6, 80) := by kernel_rfl
theorem made_expr (n : Nat) (hn : n ≤ 1048576) (w : World) : ∃ M : Array Value, M.size = n * 6 ∧
    (Instr.makeSlice 33 (.int .i64 (n : Int)) (.int .i64 (n : Int))).run Tryz.prog w = .ok (.slice (some ⟨w.heap.size, 0, none⟩) n n) (w.alloc (.cells M 35)) := by
  obtain ⟨i0, hi, hz0, hz1, hz2⟩ := info_parts infoExpr
  have hr := run_make (P := Tryz.prog) w 33 35 i0 _ Tryz.underlying33 hi hz0 .i64 .i64 n n (by omega) (Int.le_refl _) (by rw [hz2]; omega) (by omega)
  rw [hz1] at hr
  simp only [Int.toNat_natCast] at hr
  exact ⟨_, size_madeCells _ _, hr⟩

/-- the first i nodes are copied -/
def ToRel (F : Fo) (w : World) (i : Nat) (wr : World) : Prop :=
  (∃ C, wr.heap[w.heap.size]? = some (.cells C 35 (0, 0)) ∧ C.size = F.len * 6) ∧ (∀ j nd k, j < i → F.get j = some (nd, k) → ∃ v, NdAt (w.heap.size + 1) wr w.heap.size (j * 6) nd k v ∧ SkRow (w.heap.size + 1) wr.heap.size wr k v) ∧ Below w.heap.size w wr ∧ w.heap.size + 1 ≤ wr.heap.size
theorem ToRel.start {F : Fo} {w : World} {M : Array Value} (h : M.size = F.len * 6) : ToRel F w 0 (w.alloc (.cells M 35)) := by
  refine ⟨⟨M, ?_, h⟩, fun j nd k hj => by omega, (Below.refl _ _).alloc (Nat.le_refl _) _, by simp⟩
  rw [heap_alloc_at, if_pos rfl]
theorem ToRel.old {F : Fo} {w wr w3 : World} {i : Nat} (h : ToRel F w i wr) (hB : Below wr.heap.size wr w3) (hi : i < F.len) :
    (∃ u, w3.cell? ⟨w.heap.size, i * 6, none⟩ = some u) ∧ (∃ u, w3.cell? ⟨w.heap.size, i * 6 + 1, none⟩ = some u) ∧ (∃ u, w3.cell? ⟨w.heap.size, i * 6 + 2, none⟩ = some u) ∧ (∃ u, w3.cell? ⟨w.heap.size, i * 6 + 3, none⟩ = some u) ∧ (∃ u, w3.cell? ⟨w.heap.size, i * 6 + 4, none⟩ = some u) ∧ (∃ u, w3.cell? ⟨w.heap.size, i * 6 + 5, none⟩ = some u) ∧ (∀ o, w3.frozen? ⟨w.heap.size, o, none⟩ = false) := by
  obtain ⟨⟨C, hC, hs⟩, _, _, hl⟩ := h
  have hb := hB.block w.heap.size (by omega)
  rw [hC] at hb
  have G : ∀ o, o < F.len * 6 → ∃ u, w3.cell? ⟨w.heap.size, o, none⟩ = some u := fun o ho => ⟨C[o]'(by omega), by rw [cell_of_block hb]; exact Array.getElem?_eq_getElem (by omega)⟩
  exact ⟨G _ (by omega), G _ (by omega), G _ (by omega), G _ (by omega), G _ (by omega), G _ (by omega), fun o => free_of_block hb o⟩
theorem ToRel.next {F : Fo} {w wr w3 W9 : World} {i : Nat} {nd : Nd} {k : Fo} {v : Value} (h : ToRel F w i wr) (hB : Below wr.heap.size wr w3) (hg : F.get i = some (nd, k)) (hr : RowAt wr.heap.size w3 k v) (hsk : SkRow wr.heap.size w3.heap.size w3 k v)
    (h9 : W9 = (((((w3.setCell ⟨w.heap.size, i * 6, none⟩ (.int .i64 nd.k)).setCell ⟨w.heap.size, i * 6 + 1, none⟩ (.int .i64 nd.vk)).setCell ⟨w.heap.size, i * 6 + 2, none⟩ (.int .i64 nd.vn)).setCell ⟨w.heap.size, i * 6 + 3, none⟩ (.string nd.vt)).setCell ⟨w.heap.size, i * 6 + 4, none⟩ (.string nd.nm)).setCell ⟨w.heap.size, i * 6 + 5, none⟩ v) : ToRel F w (i + 1) W9 := by
  obtain ⟨⟨C, hC, hs⟩, hn, hb0, hl⟩ := h
  have hil : i < F.len := by
    apply Classical.byContradiction
    intro hx
    rw [Fo.get_none F i (by omega)] at hg
    cases hg
  have hb := hB.block w.heap.size (by omega)
  rw [hC] at hb
  have hs3 := hB.size
  have hov : Over (w.heap.size + 1) w3 W9 := by
    rw [h9]
    refine over_set (over_set (over_set (over_set (over_set (over_set (over_refl _ _) ?_ _) ?_ _) ?_ _) ?_ _) ?_ _) ?_ _ <;> (simp only; omega)
  have hob : ∀ g, w.heap.size + 1 ≤ g → g < w3.heap.size → W9.heap[g]? = w3.heap[g]? := by
    intro g hl' hg'
    rw [h9]
    rw [Below.heap_setCell _ _ _ _ (by show g ≠ w.heap.size; omega), Below.heap_setCell _ _ _ _ (by show g ≠ w.heap.size; omega), Below.heap_setCell _ _ _ _ (by show g ≠ w.heap.size; omega), Below.heap_setCell _ _ _ _ (by show g ≠ w.heap.size; omega), Below.heap_setCell _ _ _ _ (by show g ≠ w.heap.size; omega), Below.heap_setCell _ _ _ _ (by show g ≠ w.heap.size; omega)]
  have hbk : W9.heap[w.heap.size]? = some (.cells ((((((C.setIfInBounds (i * 6) (.int .i64 nd.k)).setIfInBounds (i * 6 + 1) (.int .i64 nd.vk)).setIfInBounds (i * 6 + 2) (.int .i64 nd.vn)).setIfInBounds (i * 6 + 3) (.string nd.vt)).setIfInBounds (i * 6 + 4) (.string nd.nm)).setIfInBounds (i * 6 + 5) v) 35 (0, 0)) := by
    rw [h9]
    exact block_set (block_set (block_set (block_set (block_set (block_set hb _ _) _ _) _ _) _ _) _ _) _ _
  have hbl : Below w.heap.size w W9 := by
    rw [h9]
    refine (((((((hb0.trans (hB.mono (by omega))).setCell ?_ _).setCell ?_ _).setCell ?_ _).setCell ?_ _).setCell ?_ _).setCell ?_ _) <;> (simp only; omega)
  refine ⟨⟨_, hbk, by simp [hs]⟩, fun j nd' k' hj hk => ?_, hbl, by have := hov.1; omega⟩
  by_cases hji : j = i
  · subst hji
    rw [hg] at hk
    cases hk
    refine ⟨v, ⟨?_, ?_, ?_, ?_, ?_, ?_, (hr.low (by omega)).over hov⟩, (hsk.low (by omega)).over hob hov.1⟩
    all_goals
      rw [cell_of_block hbk]
      simp [Array.getElem?_setIfInBounds, hs]
      try omega
  · obtain ⟨v', ⟨d0, d1, d2, d3, d4, d5, hr'⟩, hsk'⟩ := hn j nd' k' (by omega) hk
    have E : ∀ o, o < i * 6 → W9.cell? ⟨w.heap.size, o, none⟩ = wr.cell? ⟨w.heap.size, o, none⟩ := by
      intro o ho
      rw [cell_of_block hbk, cell_of_block hC]
      rw [Array.getElem?_setIfInBounds_ne (by omega), Array.getElem?_setIfInBounds_ne (by omega), Array.getElem?_setIfInBounds_ne (by omega), Array.getElem?_setIfInBounds_ne (by omega), Array.getElem?_setIfInBounds_ne (by omega), Array.getElem?_setIfInBounds_ne (by omega)]
    exact ⟨v', ⟨(E _ (by omega)).trans d0, (E _ (by omega)).trans d1, (E _ (by omega)).trans d2, (E _ (by omega)).trans d3, (E _ (by omega)).trans d4, (E _ (by omega)).trans d5, (hr'.over (over_of hB _)).over hov⟩, (hsk'.over (fun g _ hg => hB.block g hg) hs3).over hob hov.1⟩
theorem ToRel.done {F : Fo} {w wr : World} (h : ToRel F w F.len wr) (hN : F.len ≤ 1048576) : RowAt w.heap.size wr F (.slice (some ⟨w.heap.size, 0, none⟩) F.len F.len) := by
  obtain ⟨_, hn, _, hl⟩ := h
  refine ⟨_, _, rfl, Nat.le_refl _, by unfold maxLen; omega, fun _ => ⟨_, _, rfl, Nat.le_refl _, by omega, ?_⟩⟩
  refine (FoAt.of_get fun j nd k hk => ?_).low (Nat.le_succ _)
  have hj : j < F.len := by
    apply Classical.byContradiction
    intro hx
    rw [Fo.get_none F j (by omega)] at hk
    cases hk
  obtain ⟨v, hv, _⟩ := hn j nd k hj hk
  exact ⟨v, by rwa [Nat.zero_add]⟩
theorem ToRel.sk {F : Fo} {w wr : World} (h : ToRel F w F.len wr) (hN : F.len ≤ 1048576) : SkRow w.heap.size wr.heap.size wr F (.slice (some ⟨w.heap.size, 0, none⟩) F.len F.len) := by
  obtain ⟨⟨C, hC, hCs⟩, hn, _, hl⟩ := h
  refine ⟨_, _, rfl, Nat.le_refl _, by unfold maxLen; omega, fun _ => ⟨_, rfl, Nat.le_refl _, by omega, ?_⟩⟩
  refine SkAt.of_get fun j nd k hk => ?_
  have hj : j < F.len := by
    apply Classical.byContradiction
    intro hx
    rw [Fo.get_none F j (by omega)] at hk
    cases hk
  obtain ⟨v, ⟨_, _, _, _, _, d5, _⟩, hv⟩ := hn j nd k hj hk
  rw [cell_of_block hC] at d5
  exact ⟨C, v, hC, by omega, by rwa [Nat.zero_add], hv.low (Nat.le_succ _)⟩

set_option maxHeartbeats 800000 in
theorem toExprS_of (F : Fo) (ih : ∀ i nd k, F.get i = some (nd, k) → ToP k) : ToP F := by
  intro v w hN hsm hr
  obtain ⟨ad, cap, rfl, hc, hm, hx⟩ := hr
  unfold maxLen at hm
  have HX := hide hx
  have IH := hide ih
  have HW := hide hsm
  clear hx ih hsm
  obtain ⟨M, hMs, hmk⟩ := made_expr F.len hN w
  have HMs := hide hMs
  clear hMs
  go_enter Tryz.func32, Tryz.ntmps32
  go_wp2_with fail
  go_loopw [4] (fun iv wr => ∃ i : Nat, i ≤ F.len ∧ iv = .int .i64 i ∧ Hid (ToRel F w i wr)) (fun iv _ => F.len - (intOf iv).toNat)
  case atStart => exact ⟨0, by omega, rfl, hide (ToRel.start HMs.out)⟩
  case round =>
    obtain ⟨i, hi, rfl, HT⟩ := hrel
    have hB : Hid (Below w.heap.size w wr) := HT.out.2.2.1
    by_cases hlt : i < F.len
    · obtain ⟨g, off, rfl, _, hg, hfo⟩ := HX.out (by omega)
      obtain ⟨nd, k, hget⟩ := F.get_some i hlt
      obtain ⟨v, hnd⟩ := hfo.get hget
      obtain ⟨d0, d1, d2, d3, d4, d5, hrow⟩ := hnd.later hB.out hg
      obtain ⟨w1, w2⟩ := HW.out.get hget
      have hq := hide (toExpr_of nd k (IH.out i nd k hget) w1 w2 v wr hrow)
      have HG := hide hget
      clear hfo hnd hrow hget w2
      have hii : (i : Int) < (F.len : Int) := by omega
      go_wp2_with fail
      refine hq.out.mono ?_
      rintro e w3 ⟨v', rfl, hr3, hsk3, hB3⟩
      obtain ⟨⟨u0, x0⟩, ⟨u1, x1⟩, ⟨u2, x2⟩, ⟨u3, x3⟩, ⟨u4, x4⟩, ⟨u5, x5⟩, hfz⟩ := HT.out.old hB3 hlt
      have y0 := hfz (i * 6)
      have y1 := hfz (i * 6 + 1)
      have y2 := hfz (i * 6 + 2)
      have y3 := hfz (i * 6 + 3)
      have y4 := hfz (i * 6 + 4)
      have y5 := hfz (i * 6 + 5)
      have hnx := hide (HT.out.next hB3 HG.out hr3 hsk3 rfl)
      obtain ⟨ad', cap', rfl, _, _, _⟩ := hr3
      clear hfz hq d0 d1 d2 d3 d4 d5 hB3 hsk3
      go_wp2
      go_roundw
      case rel => exact ⟨i + 1, by omega, by go_num, hnx⟩
      case measure => simp [intOf]; omega
    · have hie : i = F.len := by omega
      subst hie
      go_wp2
      go_ret
      exact ⟨_, rfl, HT.out.done hN, HT.out.sk hN, hB.out⟩
theorem toExprS_fuel : ∀ (n : Nat) (F : Fo), F.nodes ≤ n → ToP F
  | 0, F, h => toExprS_of F fun i nd k hk => by have := F.get_nodes i nd k hk; omega
  | n + 1, F, h => toExprS_of F fun i nd k hk => toExprS_fuel n k (by have := F.get_nodes i nd k hk; omega)
theorem toExprS_any (F : Fo) : ToP F := toExprS_fuel F.nodes F (Nat.le_refl _)
end Go.Proofs.YtiffgomkhoalpaaGreatDoor
