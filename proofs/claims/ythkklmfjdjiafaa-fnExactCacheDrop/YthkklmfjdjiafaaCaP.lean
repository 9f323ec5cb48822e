/- Names with values, counted, copied and held against each other by the laws. -/
import Derived.Test.YthkklmfjdjiafaaCaC
import Derived.Deep.RegionWith
import Derived.Deep.RegionHeld3
import Derived.Deep.RegionLaw
import Derived.BigQuiet
namespace Go.Proofs.Ythkklmfjdjiafaa
open Go.RowKit
set_option linter.unusedVariables false
set_option linter.unusedSimpArgs false
theorem pq_len (c : Pq) : (pqL c).length = 4 := rfl
set_option maxHeartbeats 800000 in
theorem szPq_at (p : Pq) (hw : p.Wf) (left : Int) (h0 : 0 ≤ left) (h1 : left ≤ 1048576) (w : World) :
    Calls Try.prog 58 #[pqV p, .int .i64 left] w fun e w' => (∃ r : Int, e = .returned (.int .i64 r) ∧ r ≤ left ∧ (0 ≤ r → p.Sm)) ∧ Below w.heap.size w w' := by
  obtain ⟨nm, vk, vn, vt⟩ := p
  obtain ⟨hn, ht⟩ := hw
  unfold maxLen at hn
  simp only at hn ht
  by_cases h2 : left - nm.size < 0
  · go_enter Try.func58, Try.ntmps58
    go_wp2
    go_ret
    exact ⟨⟨-1, rfl, by omega, by omega⟩, (Below.refl _ _).alloc (Nat.le_refl _) _⟩
  · have hv := hide (szValue_at vk vn vt ht (left - nm.size) (by omega) (by omega))
    go_enter Try.func58, Try.ntmps58
    go_wp2_with fail
    refine (hv.out _).mono ?_
    rintro e w1 ⟨rfl, hB1⟩
    have HB : Below w.heap.size w w1 := ((Below.refl _ _).alloc (Nat.le_refl _) _).trans (hB1.mono (by simp))
    clear hB1 hv
    by_cases h3 : left - nm.size - vt.size < 0
    · rw [if_pos h3]
      go_wp2
      go_ret
      exact ⟨⟨-1, rfl, by omega, by omega⟩, HB⟩
    · rw [if_neg h3]
      go_wp2
      go_ret
      exact ⟨⟨_, rfl, by omega, fun _ => ⟨by show nm.size ≤ 1048576; omega, by show vt.size ≤ 1048576; omega⟩⟩, HB⟩
set_option maxRecDepth 100000 in
set_option maxHeartbeats 1600000 in
theorem szPqS_any (l : List Pq) (hwf : ∀ p ∈ l, p.Wf) (v : Value) (w : World) (hr : PRow 4 pqL w.heap.size w l v) (left : Int) (h0 : 0 ≤ left) (h1 : left ≤ 1048576) :
    Calls Try.prog 49 #[v, .int .i64 left] w fun x w' => (∃ r : Int, x = .returned (.int .i64 r) ∧ r ≤ left ∧ (0 ≤ r → r + (l.length : Int) ≤ left ∧ ∀ p ∈ l, p.Sm)) ∧ Below w.heap.size w w' := by
  obtain ⟨ad, cap, rfl, hc, hmx, hx⟩ := hr
  unfold maxLen at hmx
  have HX := hide hx
  have HW := hide hwf
  clear hx hwf
  by_cases hl : left - (l.length : Int) < 0
  · go_enter Try.func49, Try.ntmps49
    go_wp2_with fail
    go_ret
    exact ⟨⟨-1, rfl, by omega, by omega⟩, Below.refl _ _⟩
  · have hN : l.length ≤ 1048576 := by omega
    go_enter Try.func49, Try.ntmps49
    go_wp2_with fail
    go_loopw [1, 5] (fun lv iv wr => ∃ (i : Nat) (L : Int), i ≤ l.length ∧ iv = .int .i64 i ∧ lv = .int .i64 L ∧ 0 ≤ L ∧ L + (l.length : Int) ≤ left ∧ Hid (∀ j p, j < i → l[j]? = some p → p.Sm) ∧ Hid (Below w.heap.size w wr)) (fun _ iv _ => l.length - (intOf iv).toNat)
    case atStart => exact ⟨0, _, by omega, rfl, rfl, by omega, by omega, hide (fun j p hj => by omega), Below.refl _ _⟩
    case round =>
      obtain ⟨i, L, hi, rfl, rfl, hL0, hL1, HS, HB⟩ := hrel
      by_cases hlt : i < l.length
      · obtain ⟨g, off, rfl, hg, hs⟩ := HX.out (by omega)
        obtain ⟨e, he⟩ : ∃ e, l[i]? = some e := ⟨_, List.getElem?_eq_getElem hlt⟩
        have c0 := (HB.out.cell (p := ⟨g, off + i * 4, none⟩) hg).trans (hs i e he 0 _ rfl)
        have c1 := (HB.out.cell (p := ⟨g, off + i * 4 + 1, none⟩) hg).trans (hs i e he 1 _ rfl)
        have c2 := (HB.out.cell (p := ⟨g, off + i * 4 + 2, none⟩) hg).trans (hs i e he 2 _ rfl)
        have c3 := (HB.out.cell (p := ⟨g, off + i * 4 + 3, none⟩) hg).trans (hs i e he 3 _ rfl)
        have hgr : g < wr.heap.size := by have := HB.out.size; omega
        have hsz := hide (szPq_at e (HW.out e (List.mem_of_getElem? he)) L hL0 (by omega))
        have HE := hide he
        have hii : (i : Int) < (l.length : Int) := by omega
        clear hs he hl
        go_wp2_with fail
        refine (hsz.out _).mono ?_
        rintro x1 X1 ⟨⟨r, rfl, r1, r2⟩, hB1⟩
        have HB1 := hide (HB.out.trans (hB1.mono HB.out.size))
        have HR2 := hide r2
        clear hB1 hsz c0 c1 c2 c3 hgr r2
        by_cases n1 : r < 0
        · go_wp2_with fail
          go_ret
          exact ⟨⟨-1, rfl, by omega, by omega⟩, HB1.out⟩
        · have HS2 : Hid (∀ j p, j < i + 1 → l[j]? = some p → p.Sm) := fun j p hj hp => by
            by_cases hji : j = i
            · subst hji
              rw [HE.out] at hp
              obtain rfl := Option.some.inj hp
              exact HR2.out (by omega)
            · exact HS.out j p (by omega) hp
          go_wp2_with fail
          go_roundw
          case rel => exact ⟨i + 1, r, by omega, by go_num, rfl, by omega, by omega, HS2, HB1⟩
          case measure => simp [intOf]; omega
      · have HA : Hid (∀ p ∈ l, p.Sm) := fun p hp => by
          obtain ⟨j, hj⟩ := List.mem_iff_getElem?.1 hp
          exact HS.out j p (by have := (List.getElem?_eq_some_iff.1 hj).1; omega) hj
        go_wp2_with fail
        go_ret
        exact ⟨⟨L, rfl, by omega, fun _ => ⟨hL1, HA.out⟩⟩, HB.out⟩
theorem pq_after {w w1 : World} {A B C : Obj} (hb : Below (((w.alloc A).alloc B).alloc C).heap.size (((w.alloc A).alloc B).alloc C) w1) :
    w1.heap[w.heap.size]? = some A ∧ w1.heap[w.heap.size + 1]? = some B ∧ w1.heap[w.heap.size + 1 + 1]? = some C ∧ Below w.heap.size w w1 := by
  obtain ⟨h1, h2, h3, _, h5⟩ := boxes3 hb
  exact ⟨h1, h2, h3, h5⟩
set_option maxHeartbeats 1600000 in
theorem toPq_any (p : Pq) (w : World) :
    Calls Try.prog 60 #[pqV p] w fun x w' => x = .returned (pqV p) ∧ Below w.heap.size w w' := by
  obtain ⟨nm, vk, vn, vt⟩ := p
  have hv := hide (toValue_any vk vn vt)
  go_enter Try.func60, Try.ntmps60
  go_wp2_with fail
  refine (hv.out _).mono ?_
  rintro e w1 ⟨rfl, hB1⟩
  obtain ⟨ba, bb, bc, hbl⟩ := pq_after hB1
  have HBB := hide bb
  have HBL := hide hbl
  have hlt : w.heap.size + 1 + 1 < w1.heap.size := (Array.getElem?_eq_some_iff.1 bc).1
  have a0 := cell_of_block bb 0
  have a1 := cell_of_block bb 1
  have a2 := cell_of_block bb 2
  have a3 := cell_of_block bb 3
  have f0 := free_of_block bb 0
  have f1 := free_of_block bb 1
  have f2 := free_of_block bb 2
  have f3 := free_of_block bb 3
  have c0 := cell_of_block bc 0
  have c1 := cell_of_block bc 1
  have c2 := cell_of_block bc 2
  have c3 := cell_of_block bc 3
  have g0 := free_of_block bc 0
  have g1 := free_of_block bc 1
  have g2 := free_of_block bc 2
  have g3 := free_of_block bc 3
  simp only [List.getElem?_toArray, List.getElem?_cons_zero, List.getElem?_cons_succ] at a0 a1 a2 a3 c0 c1 c2 c3
  clear hB1 ba bb bc hbl hv
  go_wp2
  have hb1 : (((w1.setCell ⟨w.heap.size + 1 + 1, 1, none⟩ (.int .i64 vk)).setCell ⟨w.heap.size + 1 + 1, 2, none⟩ (.int .i64 vn)).setCell ⟨w.heap.size + 1 + 1, 3, none⟩ (.string vt)).heap[w.heap.size + 1]? = some (.cells #[.string ⟨#[]⟩, .int .i64 0, .int .i64 0, .string ⟨#[]⟩] 90 (0, 0)) := by
    rw [Below.heap_setCell _ _ _ _ (by show w.heap.size + 1 ≠ w.heap.size + 1 + 1; omega), Below.heap_setCell _ _ _ _ (by show w.heap.size + 1 ≠ w.heap.size + 1 + 1; omega), Below.heap_setCell _ _ _ _ (by show w.heap.size + 1 ≠ w.heap.size + 1 + 1; omega)]
    exact HBB.out
  have hb2 := (block_set (block_set (block_set (block_set hb1 0 (.string nm)) 1 (.int .i64 vk)) 2 (.int .i64 vn)) 3 (.string vt))
  have m0 := cell_of_block hb2 0
  have m1 := cell_of_block hb2 1
  have m2 := cell_of_block hb2 2
  have m3 := cell_of_block hb2 3
  simp at m0 m1 m2 m3
  refine bodyPost_ret (v := pqV ⟨nm, vk, vn, vt⟩) (by simp [results, Try.results60, go_sem, m0, m1, m2, m3]) rfl ?_
  refine ⟨rfl, ?_⟩
  have q1 : w.heap.size ≤ w.heap.size + 1 := Nat.le_succ _
  have q2 : w.heap.size ≤ w.heap.size + 1 + 1 := by omega
  exact (((((((HBL.out.setCell (p := ⟨w.heap.size + 1 + 1, 1, none⟩) q2 _).setCell (p := ⟨w.heap.size + 1 + 1, 2, none⟩) q2 _).setCell (p := ⟨w.heap.size + 1 + 1, 3, none⟩) q2 _).setCell (p := ⟨w.heap.size + 1, 0, none⟩) q1 _).setCell (p := ⟨w.heap.size + 1, 1, none⟩) q1 _).setCell (p := ⟨w.heap.size + 1, 2, none⟩) q1 _).setCell (p := ⟨w.heap.size + 1, 3, none⟩) q1 _)
theorem infoPq : (Try.prog.info? 90).map (fun i => (i.zero, i.size, i.bytes)) = some (some (.agg #[.string ⟨#[]⟩, .int .i64 0, .int .i64 0, .string ⟨#[]⟩]), 4, 48) := by kernel_rfl
theorem infoSPq : (Try.prog.info? 90).map (·.size) = some 4 := by kernel_rfl
theorem madePq (n : Nat) (hn : n ≤ 1048576) (w : World) : ∃ M : Array Value, M.size = n * 4 ∧
    (Instr.makeSlice 54 (.int .i64 (n : Int)) (.int .i64 (n : Int))).run Try.prog w = .ok (.slice (some ⟨w.heap.size, 0, none⟩) n n) (w.alloc (.cells M 90)) := by
  obtain ⟨i0, hi, hz0, hz1, hz2⟩ := info_parts infoPq
  have hr := run_make (P := Try.prog) w 54 90 i0 _ Try.underlying54 hi hz0 .i64 .i64 n n (by omega) (Int.le_refl _) (by rw [hz2]; omega) (by omega)
  rw [hz1] at hr
  simp only [Int.toNat_natCast] at hr
  exact ⟨_, size_madeCells _ _, hr⟩
theorem wsPq {ops : Array Oper} {rest : List Oper} {o : Oper} {a : Act} {W : World} {Q : Exit → Act → World → Prop} (hgd : o.guard = none) (x y : Operand) (ho : o.op = .store 90 x y)
    (b off : Nat) (hx : a.eval x = .pointer (some ⟨b, off, none⟩)) (e : Pq) (hy : a.eval y = pqV e) (ht : W.there b off 4)
    (h : wpList Try.prog ops Q rest (a.put o.dst undef) (W.setCells b off (pqL e))) : wpList Try.prog ops Q (o :: rest) a W :=
  wpList_store_mid hgd 90 x y ho b off (pqL e).toArray hx hy ht infoSPq (by simp [Value.oneCell']) h
set_option maxRecDepth 100000 in
set_option maxHeartbeats 1600000 in
theorem toPqS_any (l : List Pq) (hN : l.length ≤ 1048576) (v : Value) (w : World) (hr : PRow 4 pqL w.heap.size w l v) :
    Calls Try.prog 52 #[v] w fun x w' => x = .returned (.slice (some ⟨w.heap.size, 0, none⟩) l.length l.length) ∧ TQ 90 4 pqL l w l.length w' := by
  obtain ⟨ad, cap, rfl, hc, hmx, hx⟩ := hr
  unfold maxLen at hmx
  have HX := hide hx
  clear hx
  obtain ⟨M, hMs, hmk⟩ := madePq l.length hN w
  have HMs := hide hMs
  clear hMs
  go_enter Try.func52, Try.ntmps52
  go_wp2_with fail
  go_loopw [4] (fun iv wr => ∃ i : Nat, i ≤ l.length ∧ iv = .int .i64 i ∧ Hid (TQ 90 4 pqL l w i wr)) (fun iv _ => l.length - (intOf iv).toNat)
  case atStart => exact ⟨0, by omega, rfl, hide (TQ.start HMs.out)⟩
  case round =>
    obtain ⟨i, hi, rfl, HT⟩ := hrel
    by_cases hlt : i < l.length
    · obtain ⟨g, off, rfl, hg, hs⟩ := HX.out (by omega)
      obtain ⟨e, he⟩ : ∃ e, l[i]? = some e := ⟨_, List.getElem?_eq_getElem hlt⟩
      have c0 := (HT.out.2.cell (p := ⟨g, off + i * 4, none⟩) hg).trans (hs i e he 0 _ rfl)
      have c1 := (HT.out.2.cell (p := ⟨g, off + i * 4 + 1, none⟩) hg).trans (hs i e he 1 _ rfl)
      have c2 := (HT.out.2.cell (p := ⟨g, off + i * 4 + 2, none⟩) hg).trans (hs i e he 2 _ rfl)
      have c3 := (HT.out.2.cell (p := ⟨g, off + i * 4 + 3, none⟩) hg).trans (hs i e he 3 _ rfl)
      have hgr : g < wr.heap.size := by have := HT.out.2.size; omega
      have hcall := hide (toPq_any e)
      have HE := hide he
      have hii : (i : Int) < (l.length : Int) := by omega
      clear hs he hmk
      go_wp2_with fail
      refine (hcall.out _).mono ?_
      rintro x1 X1 ⟨rfl, hB1⟩
      have HT1 := hide (HT.out.later hB1)
      have HTH := hide (HT1.out.there hlt)
      have HNX := hide (HT1.out.next pq_len HE.out)
      clear hB1 hcall HT HT1 c0 c1 c2 c3 hgr
      go_wp2_with (first
        | (with_reducible show wpList _ _ _ (Oper.mk _ (Op.store 90 _ _) _ _ _ _ :: _) _ _; refine wsPq rfl (.tmp 21) (.tmp 20) rfl w.heap.size (i * 4) rfl e rfl HTH.out ?_))
      exact ⟨⟨i + 1, by omega, by go_num, HNX⟩, by simp [intOf]; omega⟩
    · have hie : i = l.length := by omega
      have HD : Hid (TQ 90 4 pqL l w l.length wr) := by rw [← hie]; exact HT
      clear hie hmk
      go_wp2_with fail
      go_ret
      exact ⟨rfl, HD.out⟩
set_option maxHeartbeats 800000 in
theorem eqPq_any (p : Pq) (w : World) :
    Calls Try.prog 62 #[pqV p, pqV p] w fun e w' => e = .returned (.bool true) ∧ Below w.heap.size w w' := by
  obtain ⟨nm, vk, vn, vt⟩ := p
  have hv := hide (eqVal_at vk vn vt)
  go_enter Try.func62, Try.ntmps62
  go_wp2_with fail
  refine (hv.out _).mono ?_
  rintro e w1 ⟨rfl, hB1⟩
  have HB := hide ((two_low w _ _).trans (hB1.mono (two_low w _ _).size))
  clear hB1 hv
  go_wp2
  go_ret
  exact ⟨rfl, HB.out⟩
set_option maxHeartbeats 1600000 in
theorem eqPqS_any (l : List Pq) (hN : l.length ≤ 1048576) (va vb : Value) (w : World) (ha : PRow 4 pqL w.heap.size w l va) (hb : PRow 4 pqL w.heap.size w l vb) :
    Calls Try.prog 56 #[va, vb] w fun x w' => x = .returned (.bool true) ∧ Below w.heap.size w w' := by
  obtain ⟨aa, ca, rfl, hca, hma, hxa⟩ := ha
  obtain ⟨ab, cb, rfl, hcb, hmb, hxb⟩ := hb
  unfold maxLen at hma hmb
  have HXA := hide hxa
  have HXB := hide hxb
  clear hxa hxb
  go_enter Try.func56, Try.ntmps56
  go_wp2_with fail
  go_loopw [5] (fun iv wr => ∃ i : Nat, i ≤ l.length ∧ iv = .int .i64 i ∧ Hid (Below w.heap.size w wr)) (fun iv _ => l.length - (intOf iv).toNat)
  case atStart => exact ⟨0, by omega, rfl, hide (Below.refl _ _)⟩
  case round =>
    obtain ⟨i, hi, rfl, hB⟩ := hrel
    by_cases hlt : i < l.length
    · obtain ⟨ga, oa, rfl, hga, hsa⟩ := HXA.out (by omega)
      obtain ⟨gb, ob, rfl, hgb, hsb⟩ := HXB.out (by omega)
      obtain ⟨e, he⟩ : ∃ e, l[i]? = some e := ⟨_, List.getElem?_eq_getElem hlt⟩
      have d0 := (hB.out.cell (p := ⟨ga, oa + i * 4, none⟩) hga).trans (hsa i e he 0 _ rfl)
      have d1 := (hB.out.cell (p := ⟨ga, oa + i * 4 + 1, none⟩) hga).trans (hsa i e he 1 _ rfl)
      have d2 := (hB.out.cell (p := ⟨ga, oa + i * 4 + 2, none⟩) hga).trans (hsa i e he 2 _ rfl)
      have d3 := (hB.out.cell (p := ⟨ga, oa + i * 4 + 3, none⟩) hga).trans (hsa i e he 3 _ rfl)
      have f0 := (hB.out.cell (p := ⟨gb, ob + i * 4, none⟩) hgb).trans (hsb i e he 0 _ rfl)
      have f1 := (hB.out.cell (p := ⟨gb, ob + i * 4 + 1, none⟩) hgb).trans (hsb i e he 1 _ rfl)
      have f2 := (hB.out.cell (p := ⟨gb, ob + i * 4 + 2, none⟩) hgb).trans (hsb i e he 2 _ rfl)
      have f3 := (hB.out.cell (p := ⟨gb, ob + i * 4 + 3, none⟩) hgb).trans (hsb i e he 3 _ rfl)
      have hga' : ga < wr.heap.size := by have := hB.out.size; omega
      have hgb' : gb < wr.heap.size := by have := hB.out.size; omega
      have hq := hide (eqPq_any e)
      clear hsa hsb he
      have hii : (i : Int) < (l.length : Int) := by omega
      go_wp2_with fail
      go_region_with (go_at_call 62; refine (hq.out _).mono ?_; rintro x w3 ⟨rfl, hB3⟩)
      all_goals
        clear d0 f0 d1 f1 d2 f2 d3 f3 hq
        go_wp2
        go_roundw
        case rel => exact ⟨i + 1, by omega, by go_num, hide (hB.out.drew.trans (hB3.mono hB.out.size))⟩
        case measure => simp [intOf]; omega
    · go_wp2
      go_ret
      exact ⟨rfl, hB.out⟩
end Go.Proofs.Ythkklmfjdjiafaa
