/- Items of a cache, held against each other by the laws. -/
import Derived.Test.YthkklmfjdjiafaaCaB
namespace Go.Proofs.Ythkklmfjdjiafaa
open Go.RowKit
set_option linter.unusedVariables false
set_option linter.unusedSimpArgs false
theorem two_q {w w1 : World} {A B : Obj} (hb : Below ((w.alloc A).alloc B).heap.size ((w.alloc A).alloc B) w1) : w1.heap[w.heap.size]? = some A ∧ w1.heap[w.heap.size + 1]? = some B ∧ Below w.heap.size w w1 ∧ w.heap.size + 2 ≤ w1.heap.size := by
  have hs := hb.size
  have e1 : (w.alloc A).heap.size = w.heap.size + 1 := by simp
  have e2 : ((w.alloc A).alloc B).heap.size = w.heap.size + 1 + 1 := by simp
  refine ⟨?_, ?_, (((Below.refl _ w).alloc (Nat.le_refl _) A).alloc (by omega) B).trans (hb.mono (by omega)), by omega⟩
  · rw [hb.block _ (by omega), heap_alloc_at, if_neg (by omega), heap_alloc_at, if_pos rfl]
  · rw [hb.block _ (by omega), heap_alloc_at, if_pos (by omega)]
set_option maxRecDepth 100000 in
set_option maxHeartbeats 3200000 in
theorem eqOut_any (it : It) (hc0 : it.cs.length ≤ 1048576) (hp0 : it.ps.length ≤ 1048576) (va1 va3 vb1 vb3 : Value) (w : World) (ha : Two w.heap.size w it va1 va3) (hb : Two w.heap.size w it vb1 vb3) :
    Calls Try.prog 46 #[otV it va1 va3, otV it vb1 vb3] w fun e w' => e = .returned (.bool true) ∧ Below w.heap.size w w' := by
  have hs1 := hide (fun W (hW : Below w.heap.size w W) => eqCmS_any it.cs hc0 va1 vb1 W ((ha.1.later hW).up hW.size) ((hb.1.later hW).up hW.size))
  have hs2 := hide (eqVal_at it.vk it.vn it.vt)
  have hs3 := hide (fun W (hW : Below w.heap.size w W) => eqPqS_any it.ps hp0 va3 vb3 W ((ha.2.later hW).up hW.size) ((hb.2.later hW).up hW.size))
  obtain ⟨⟨a1, c1, hva1⟩, ⟨a3, c3, hva3⟩⟩ := two_form ha
  obtain ⟨⟨b1, d1, hvb1⟩, ⟨b3, d3, hvb3⟩⟩ := two_form hb
  subst hva1 hva3 hvb1 hvb3
  obtain ⟨run, many, cs, st, vk, vn, vt, on, ps, fu⟩ := it
  simp only at hs1 hs2 hs3
  have n1 : (st != st) = false := by simp
  have n2 : (fu != fu) = false := by simp
  clear ha hb
  go_enter Try.func46, Try.ntmps46
  go_wp2_with fail
  refine (hs1.out _ (two_low w _ _)).mono ?_
  rintro e1 w1 ⟨rfl, hB1⟩
  obtain ⟨bx, by', hB, hsz⟩ := two_q hB1
  have HX1 := hide bx
  have HY1 := hide by'
  have HB1 := hide hB
  have x1 := cell_of_block bx 1
  have x2 := cell_of_block bx 2
  have x3 := cell_of_block bx 3
  have x4 := cell_of_block bx 4
  simp only [List.getElem?_toArray, List.getElem?_cons_zero, List.getElem?_cons_succ] at x1 x2 x3 x4
  have y1 := cell_of_block by' 1
  have y2 := cell_of_block by' 2
  have y3 := cell_of_block by' 3
  have y4 := cell_of_block by' 4
  simp only [List.getElem?_toArray, List.getElem?_cons_zero, List.getElem?_cons_succ] at y1 y2 y3 y4
  clear hB1 bx by' hB hs1
  go_wp2_with fail
  refine (hs2.out _).mono ?_
  rintro e2 w2 ⟨rfl, hB2⟩
  have HX2 := hide ((hB2.block _ (by omega)).trans HX1.out)
  have HY2 := hide ((hB2.block _ (by omega)).trans HY1.out)
  have HB2 := hide (HB1.out.trans (hB2.mono HB1.out.size))
  have hsz2 := hB2.size
  clear x1 x2 x3 x4 y1 y2 y3 y4 HX1 HY1 HB1 hB2 hs2
  have x5 := cell_of_block HX2.out 5
  have x6 := cell_of_block HX2.out 6
  simp only [List.getElem?_toArray, List.getElem?_cons_zero, List.getElem?_cons_succ] at x5 x6
  have y5 := cell_of_block HY2.out 5
  have y6 := cell_of_block HY2.out 6
  simp only [List.getElem?_toArray, List.getElem?_cons_zero, List.getElem?_cons_succ] at y5 y6
  go_wp2_with fail
  refine (hs3.out _ HB2.out).mono ?_
  rintro e3 w3 ⟨rfl, hB3⟩
  have HX3 := hide ((hB3.block _ (by omega)).trans HX2.out)
  have HY3 := hide ((hB3.block _ (by omega)).trans HY2.out)
  have HB3 := hide (HB2.out.trans (hB3.mono HB2.out.size))
  clear x5 x6 y5 y6 HX2 HY2 HB2 hB3 hs3
  have x7 := cell_of_block HX3.out 7
  simp only [List.getElem?_toArray, List.getElem?_cons_zero, List.getElem?_cons_succ] at x7
  have y7 := cell_of_block HY3.out 7
  simp only [List.getElem?_toArray, List.getElem?_cons_zero, List.getElem?_cons_succ] at y7
  go_wp2
  go_ret
  exact ⟨rfl, HB3.out⟩
set_option maxRecDepth 100000 in
set_option maxHeartbeats 3200000 in
theorem eqItem_any (it : It) (hc0 : it.cs.length ≤ 1048576) (hp0 : it.ps.length ≤ 1048576) (va1 va3 vb1 vb3 : Value) (w : World) (ha : Two w.heap.size w it va1 va3) (hb : Two w.heap.size w it vb1 vb3) :
    Calls Try.prog 32 #[itV it va1 va3, itV it vb1 vb3] w fun e w' => e = .returned (.bool true) ∧ Below w.heap.size w w' := by
  have hs1 := hide (fun W (hW : Below w.heap.size w W) => eqOut_any it hc0 hp0 va1 va3 vb1 vb3 W ((ha.later hW).up hW.size) ((hb.later hW).up hW.size))
  obtain ⟨⟨a1, c1, hva1⟩, ⟨a3, c3, hva3⟩⟩ := two_form ha
  obtain ⟨⟨b1, d1, hvb1⟩, ⟨b3, d3, hvb3⟩⟩ := two_form hb
  subst hva1 hva3 hvb1 hvb3
  have n1 : (it.run != it.run) = false := by simp
  have n2 : (it.many != it.many) = false := by simp
  clear ha hb
  go_enter Try.func32, Try.ntmps32
  go_wp2_with fail
  refine (hs1.out _ (two_low w _ _)).mono ?_
  rintro e1 w1 ⟨rfl, hB1⟩
  have HB := hide ((two_low w _ _).trans (hB1.mono (two_low w _ _).size))
  clear hB1 hs1
  go_wp2
  go_ret
  exact ⟨rfl, HB.out⟩
set_option maxRecDepth 100000 in
set_option maxHeartbeats 3200000 in
theorem eqItemS_any (l : List It) (hN : l.length + itX l ≤ 1048576) (va vb : Value) (w : World) (ha : IRow w.heap.size w l va) (hb : IRow w.heap.size w l vb) :
    Calls Try.prog 25 #[va, vb] w fun x w' => x = .returned (.bool true) ∧ Below w.heap.size w w' := by
  have HN2 : Hid (∀ (i : Nat) (it : It), l[i]? = some it → it.cs.length ≤ 1048576 ∧ it.ps.length ≤ 1048576) := fun i it he => by
    have h1 := itX_next he
    have h2 : itX l = itX (l.take (i + 1)) + itX (l.drop (i + 1)) := by rw [← itX_app, List.take_append_drop]
    omega
  obtain ⟨aa, ca, rfl, hca, hma, hxa⟩ := ha
  obtain ⟨ab, cb, rfl, hcb, hmb, hxb⟩ := hb
  unfold maxLen at hma hmb
  have HXA := hide hxa
  have HXB := hide hxb
  clear hxa hxb
  go_enter Try.func25, Try.ntmps25
  go_wp2_with fail
  go_loopw [5] (fun iv wr => ∃ i : Nat, i ≤ l.length ∧ iv = .int .i64 i ∧ Hid (Below w.heap.size w wr)) (fun iv _ => l.length - (intOf iv).toNat)
  case atStart => exact ⟨0, by omega, rfl, hide (Below.refl _ _)⟩
  case round =>
    obtain ⟨i, hi, rfl, hB⟩ := hrel
    by_cases hlt : i < l.length
    · obtain ⟨ga, oa, rfl, hga, hsa⟩ := HXA.out (by omega)
      obtain ⟨gb, ob, rfl, hgb, hsb⟩ := HXB.out (by omega)
      obtain ⟨e, he⟩ : ∃ e, l[i]? = some e := ⟨_, List.getElem?_eq_getElem hlt⟩
      obtain ⟨va1, va3, hcla, hta⟩ := hsa i e he
      obtain ⟨vb1, vb3, hclb, htb⟩ := hsb i e he
      obtain ⟨⟨a1, c1, hva1⟩, ⟨a3, c3, hva3⟩⟩ := two_form hta
      obtain ⟨⟨b1, d1, hvb1⟩, ⟨b3, d3, hvb3⟩⟩ := two_form htb
      subst hva1 hva3 hvb1 hvb3
      have x0 := (hB.out.cell (p := ⟨ga, oa + i * 10, none⟩) hga).trans (hcla 0 _ rfl)
      have x1 := (hB.out.cell (p := ⟨ga, oa + i * 10 + 1, none⟩) hga).trans (hcla 1 _ rfl)
      have x2 := (hB.out.cell (p := ⟨ga, oa + i * 10 + 2, none⟩) hga).trans (hcla 2 _ rfl)
      have x3 := (hB.out.cell (p := ⟨ga, oa + i * 10 + 3, none⟩) hga).trans (hcla 3 _ rfl)
      have x4 := (hB.out.cell (p := ⟨ga, oa + i * 10 + 4, none⟩) hga).trans (hcla 4 _ rfl)
      have x5 := (hB.out.cell (p := ⟨ga, oa + i * 10 + 5, none⟩) hga).trans (hcla 5 _ rfl)
      have x6 := (hB.out.cell (p := ⟨ga, oa + i * 10 + 6, none⟩) hga).trans (hcla 6 _ rfl)
      have x7 := (hB.out.cell (p := ⟨ga, oa + i * 10 + 7, none⟩) hga).trans (hcla 7 _ rfl)
      have x8 := (hB.out.cell (p := ⟨ga, oa + i * 10 + 8, none⟩) hga).trans (hcla 8 _ rfl)
      have x9 := (hB.out.cell (p := ⟨ga, oa + i * 10 + 9, none⟩) hga).trans (hcla 9 _ rfl)
      have y0 := (hB.out.cell (p := ⟨gb, ob + i * 10, none⟩) hgb).trans (hclb 0 _ rfl)
      have y1 := (hB.out.cell (p := ⟨gb, ob + i * 10 + 1, none⟩) hgb).trans (hclb 1 _ rfl)
      have y2 := (hB.out.cell (p := ⟨gb, ob + i * 10 + 2, none⟩) hgb).trans (hclb 2 _ rfl)
      have y3 := (hB.out.cell (p := ⟨gb, ob + i * 10 + 3, none⟩) hgb).trans (hclb 3 _ rfl)
      have y4 := (hB.out.cell (p := ⟨gb, ob + i * 10 + 4, none⟩) hgb).trans (hclb 4 _ rfl)
      have y5 := (hB.out.cell (p := ⟨gb, ob + i * 10 + 5, none⟩) hgb).trans (hclb 5 _ rfl)
      have y6 := (hB.out.cell (p := ⟨gb, ob + i * 10 + 6, none⟩) hgb).trans (hclb 6 _ rfl)
      have y7 := (hB.out.cell (p := ⟨gb, ob + i * 10 + 7, none⟩) hgb).trans (hclb 7 _ rfl)
      have y8 := (hB.out.cell (p := ⟨gb, ob + i * 10 + 8, none⟩) hgb).trans (hclb 8 _ rfl)
      have y9 := (hB.out.cell (p := ⟨gb, ob + i * 10 + 9, none⟩) hgb).trans (hclb 9 _ rfl)
      have hga' : ga < wr.heap.size := by have := hB.out.size; omega
      have hgb' : gb < wr.heap.size := by have := hB.out.size; omega
      have HTA := hide hta
      have HTB := hide htb
      have HE := hide (HN2.out i e he)
      have hq := hide (fun W (hW : Below wr.heap.size wr W) => eqItem_any e HE.out.1 HE.out.2 _ _ _ _ W ((HTA.out.later (hB.out.trans (hW.mono hB.out.size))).up (hB.out.trans (hW.mono hB.out.size)).size) ((HTB.out.later (hB.out.trans (hW.mono hB.out.size))).up (hB.out.trans (hW.mono hB.out.size)).size))
      have hdr : Hid (Below wr.heap.size wr wr.drew) := (Below.refl _ _).drew
      clear hsa hsb he hcla hclb hta htb
      have hii : (i : Int) < (l.length : Int) := by omega
      go_wp2_with fail
      go_region_with (go_at_call 32; refine (hq.out _ hdr.out).mono ?_; rintro x w3 ⟨rfl, hB3⟩)
      all_goals
        clear x0 y0 x1 y1 x2 y2 x3 y3 x4 y4 x5 y5 x6 y6 x7 y7 x8 y8 x9 y9 hq
        go_wp2
        go_roundw
        case rel => exact ⟨i + 1, by omega, by go_num, hide (hB.out.drew.trans (hB3.mono hB.out.size))⟩
        case measure => simp [intOf]; omega
    · go_wp2
      go_ret
      exact ⟨rfl, hB.out⟩
set_option maxHeartbeats 800000 in
theorem eqCache_any (l : List It) (hN : l.length + itX l ≤ 1048576) (va vb : Value) (w : World) (ha : IRow w.heap.size w l va) (hb : IRow w.heap.size w l vb) :
    Calls Try.prog 13 #[caV va, caV vb] w fun x w' => x = .returned (.bool true) ∧ Below w.heap.size w w' := by
  have hs := hide (fun W (hW : Below w.heap.size w W) => eqItemS_any l hN va vb W ((ha.later hW).up hW.size) ((hb.later hW).up hW.size))
  obtain ⟨aa, ca, hva, _⟩ := ha
  obtain ⟨ab, cb, hvb, _⟩ := hb
  subst hva hvb
  go_enter Try.func13, Try.ntmps13
  go_wp2_with fail
  refine (hs.out _ (two_low w _ _)).mono ?_
  rintro e1 w1 ⟨rfl, hB1⟩
  have HB := hide ((two_low w _ _).trans (hB1.mono (two_low w _ _).size))
  clear hB1 hs
  go_wp2
  go_ret
  exact ⟨rfl, HB.out⟩
end Go.Proofs.Ythkklmfjdjiafaa
