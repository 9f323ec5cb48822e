/- Copies of values and events, of memory of their own. -/
import Derived.Test.YthimglgjeibaoaaCln
import Derived.Test.YthimglgjeibaoaaLwT
namespace Go.Proofs.Ythimglgjeibaoaa
open Go.RowKit
set_option linter.unusedVariables false
set_option linter.unusedSimpArgs false
theorem vals3 {W : World} {b : Nat} {x0 x1 x2 : Value} {T : TypeId} (h : W.heap[b]? = some (.cells #[x0, x1, x2] T (0, 0))) : W.cell? ⟨b, 0, none⟩ = some x0 ∧ W.cell? ⟨b, 1, none⟩ = some x1 ∧ W.cell? ⟨b, 2, none⟩ = some x2 :=
  ⟨cell_of_block h 0, cell_of_block h 1, cell_of_block h 2⟩
set_option maxHeartbeats 800000 in
theorem ownVal_any (k n : Int) (t : ByteArray) (ht : t.size ≤ 2000000) (w : World) :
    Calls Try.prog 38 #[vAgg k n t] w fun e w' => e = .returned (vAgg k n t) ∧ Below w.heap.size w w' := by
  have hc := hide (clone_any t (by omega))
  go_enter Try.func38, Try.ntmps38
  go_wp2_with fail
  refine (hc.out _).mono ?_
  rintro e w1 ⟨rfl, hB1⟩
  obtain ⟨ba, bb, hbl⟩ := two_boxes hB1
  obtain ⟨a0, a1, a2⟩ := vals3 ba
  have e2 := free_of_block ba 2
  obtain ⟨r0, r1, r2⟩ := vals3 bb
  have f0 := free_of_block bb 0
  have f1 := free_of_block bb 1
  have f2 := free_of_block bb 2
  have HBB := hide bb
  have HBL := hide hbl
  clear hB1 ba bb hbl
  go_wp2
  generalize hW : ((((w1.setCell ⟨w.heap.size, 2, none⟩ (.string t)).setCell ⟨w.heap.size + 1, 0, none⟩ (.int .i64 k)).setCell ⟨w.heap.size + 1, 1, none⟩ (.int .i64 n)).setCell ⟨w.heap.size + 1, 2, none⟩ (.string t)) = W9
  have hbk : W9.heap[w.heap.size + 1]? = some (.cells #[.int .i64 k, .int .i64 n, .string t] 40 (0, 0)) := by
    have h0 : (w1.setCell ⟨w.heap.size, 2, none⟩ (.string t)).heap[w.heap.size + 1]? = some (.cells #[.int .i64 0, .int .i64 0, .string ⟨#[]⟩] 40 (0, 0)) := (Below.heap_setCell _ _ _ _ (by simp only; omega)).trans HBB.out
    rw [← hW, block_set (block_set (block_set h0 0 _) 1 _) 2 _]
    rfl
  have hbl : Below w.heap.size w W9 := by
    rw [← hW]
    refine (((HBL.out.setCell ?_ _).setCell ?_ _).setCell ?_ _).setCell ?_ _ <;> (simp only; omega)
  clear hW
  obtain ⟨c0, c1, c2⟩ := vals3 hbk
  exact bodyPost_ret (v := vAgg k n t) (by simp [results, Try.results38, go_sem, c0, c1, c2]) rfl ⟨rfl, hbl⟩
/-- an event in a box, what is handed back, nothing else turned -/
def OE (w : World) (e : Ev) (X : World) : Prop := X.heap[w.heap.size]? = some (.cells (evL e).toArray 46 (0, 0)) ∧ (∃ Z, X.heap[w.heap.size + 1]? = some (.cells Z 46 (0, 0)) ∧ Z.size = 17) ∧ Below w.heap.size w X
theorem OE.later {w X X1 : World} {e : Ev} (h : OE w e X) (hB : Below X.heap.size X X1) : OE w e X1 := by
  obtain ⟨h0, ⟨Z, h1, hZ⟩, hb⟩ := h
  have l0 := (Array.getElem?_eq_some_iff.1 h0).1
  have l1 := (Array.getElem?_eq_some_iff.1 h1).1
  exact ⟨(hB.block _ l0).trans h0, ⟨Z, (hB.block _ l1).trans h1, hZ⟩, hb.trans (hB.mono hb.size)⟩
/-- a cell written with what it holds -/
theorem OE.set {w X : World} {e : Ev} (h : OE w e X) {i : Nat} {v : Value} (hv : (evL e).toArray.setIfInBounds i v = (evL e).toArray) : OE w e (X.setCell ⟨w.heap.size, i, none⟩ v) := by
  obtain ⟨h0, ⟨Z, h1, hZ⟩, hb⟩ := h
  have := block_set h0 i v
  rw [hv] at this
  exact ⟨this, ⟨Z, (Below.heap_setCell _ _ _ _ (by simp only; omega)).trans h1, hZ⟩, hb.setCell (by simp only; omega) _⟩
/-- texts that are no longer than anything that is ever copied -/
def Ev.Small (e : Ev) : Prop := e.vt.size ≤ 2000000 ∧ e.cn.size ≤ 2000000 ∧ e.ax.size ≤ 2000000 ∧ e.mn.size ≤ 2000000 ∧ e.wt.size ≤ 2000000
set_option maxRecDepth 100000 in
set_option maxHeartbeats 3200000 in
theorem ownEvent_any (e : Ev) (hsm : e.Small) (w : World) :
    Calls Try.prog 20 #[evV e] w fun x w' => x = .returned (evV e) ∧ Below w.heap.size w w' := by
  obtain ⟨s1, s2, s3, s4, s5⟩ := hsm
  have hv := hide (ownVal_any e.vk e.vn e.vt s1)
  have hn2 := hide (clone_any e.cn (by omega))
  have hv2 := hide (ownVal_any e.ak e.an e.ax s3)
  have hn3 := hide (clone_any e.mn (by omega))
  have hv3 := hide (ownVal_any e.wk e.wn e.wt s5)
  clear s1 s2 s3 s4 s5
  go_enter Try.func20, Try.ntmps20
  go_wp2_with fail
  refine (hv.out _).mono ?_
  rintro x1 X1 ⟨rfl, hB1⟩
  have HX1 : Hid (OE w e X1) := OE.later ⟨top2 _ _ _, ⟨_, top2' _ _ _, rfl⟩, ((Below.refl _ _).alloc (Nat.le_refl _) _).alloc (by simp) _⟩ hB1
  have a1 : X1.cell? ⟨w.heap.size, 1, none⟩ = some (.int .i64 e.vk) := cell_of_block HX1.out.1 1
  have a2 : X1.cell? ⟨w.heap.size, 2, none⟩ = some (.int .i64 e.vn) := cell_of_block HX1.out.1 2
  have a3 : X1.cell? ⟨w.heap.size, 3, none⟩ = some (.string e.vt) := cell_of_block HX1.out.1 3
  have f1 := free_of_block HX1.out.1 1
  have f2 := free_of_block HX1.out.1 2
  have f3 := free_of_block HX1.out.1 3
  have HX2 : Hid (OE w e (((X1.setCell ⟨w.heap.size, 1, none⟩ (.int .i64 e.vk)).setCell ⟨w.heap.size, 2, none⟩ (.int .i64 e.vn)).setCell ⟨w.heap.size, 3, none⟩ (.string e.vt))) := OE.set (OE.set (OE.set HX1.out rfl) rfl) rfl
  clear hB1 hv HX1
  go_wp2_with fail
  refine gen_code (fun X => Hid (OE w e X)) HX2 ?_
  intro X HX
  clear HX2 a1 a2 a3 f1 f2 f3
  have hOX : OE w e X.drew := ⟨HX.out.1, HX.out.2.1, below_drew' HX.out.2.2⟩
  refine wp_region_noPanic ?_
  refine wp_region_held_drew (S := fun W => OE w e W) (by kernel_rfl) hOX (fun hHeld => ?_)
  refine wpAnyH_take (i := 0) (oi := Oper.mk (some 7) _ _ _ _ _) (v := ?_) rfl (by kernel_rfl) (by kernel_rfl) (by kernel_rfl) (fun _ _ _ h => h) (Or.inl ⟨by rfl, ?_⟩) (by assumption) ?_
  rotate_left
  · intro w0 hSw
    clear hSw
    go_simp
    all_goals (with_reducible rfl)
  simp only [Act.put, List.setIfInBounds_toArray, List.set_cons_zero, List.set_cons_succ]
  refine wpAnyH_take (i := 1) (oi := Oper.mk (some 8) _ _ _ _ _) (v := ?_) rfl (by kernel_rfl) (by kernel_rfl) (by kernel_rfl) (fun _ _ _ h => h) (Or.inl ⟨by rfl, ?_⟩) (by assumption) ?_
  rotate_left
  · intro w0 hSw
    clear hSw
    go_simp
    all_goals (with_reducible rfl)
  simp only [Act.put, List.setIfInBounds_toArray, List.set_cons_zero, List.set_cons_succ]
  refine wpAnyH_take (i := 2) (oi := Oper.mk (some 9) _ _ _ _ _) (v := ?_) rfl (by kernel_rfl) (by kernel_rfl) (by kernel_rfl) (fun _ _ _ h => h) (Or.inl ⟨by rfl, ?_⟩) (by assumption) ?_
  rotate_left
  · intro w0 hSw
    have c6 : w0.cell? ⟨w.heap.size, 6, none⟩ = some (.string e.cn) := cell_of_block hSw.1 6
    clear hSw
    go_simp
    all_goals (with_reducible rfl)
  simp only [Act.put, List.setIfInBounds_toArray, List.set_cons_zero, List.set_cons_succ]
  refine wpAnyH_take (i := 4) (oi := Oper.mk (some 11) _ _ _ _ _) (v := ?_) rfl (by kernel_rfl) (by kernel_rfl) (by kernel_rfl) (fun _ _ _ h => h) (Or.inl ⟨by rfl, ?_⟩) (by assumption) ?_
  rotate_left
  · intro w0 hSw
    clear hSw
    go_simp
    all_goals (with_reducible rfl)
  simp only [Act.put, List.setIfInBounds_toArray, List.set_cons_zero, List.set_cons_succ]
  refine wpAnyH_take (i := 5) (oi := Oper.mk (some 12) _ _ _ _ _) (v := ?_) rfl (by kernel_rfl) (by kernel_rfl) (by kernel_rfl) (fun _ _ _ h => h) (Or.inl ⟨by rfl, ?_⟩) (by assumption) ?_
  rotate_left
  · intro w0 hSw
    clear hSw
    go_simp
    all_goals (with_reducible rfl)
  simp only [Act.put, List.setIfInBounds_toArray, List.set_cons_zero, List.set_cons_succ]
  refine wpAnyH_take (i := 6) (oi := Oper.mk (some 13) _ _ _ _ _) (v := ?_) rfl (by kernel_rfl) (by kernel_rfl) (by kernel_rfl) (fun _ _ _ h => h) (Or.inl ⟨by rfl, ?_⟩) (by assumption) ?_
  rotate_left
  · intro w0 hSw
    have c7 : w0.cell? ⟨w.heap.size, 7, none⟩ = some (.int .i64 e.ak) := cell_of_block hSw.1 7
    have c8 : w0.cell? ⟨w.heap.size, 8, none⟩ = some (.int .i64 e.an) := cell_of_block hSw.1 8
    have c9 : w0.cell? ⟨w.heap.size, 9, none⟩ = some (.string e.ax) := cell_of_block hSw.1 9
    clear hSw
    go_simp
    all_goals (with_reducible rfl)
  simp only [Act.put, List.setIfInBounds_toArray, List.set_cons_zero, List.set_cons_succ]
  refine wpAnyH_ready (rs := [3]) (by kernel_rfl) (by simp) ?_
  refine AllReadyH.cons (o := Oper.mk (some 10) _ _ _ _ none) rfl (fun K hK => ?_) AllReadyH.nil
  go_simp
  go_at_call 39
  refine (hn2.out _).mono ?_
  rintro x0 Y1 ⟨rfl, hB0⟩
  have hHY1 := OE.later hHeld hB0
  clear hB0
  go_wp2_with fail
  refine hK.out _ _ hHY1 (fun hHeld => ?_)
  clear hK K hHeld
  (try simp only [Act.put, List.setIfInBounds_toArray, List.set_cons_zero, List.set_cons_succ])
  refine wpAnyH_take (i := 8) (oi := Oper.mk (some 15) _ _ _ _ _) (v := ?_) rfl (by kernel_rfl) (by kernel_rfl) (by kernel_rfl) (fun _ _ _ h => h) (Or.inl ⟨by rfl, ?_⟩) (by assumption) ?_
  rotate_left
  · intro w0 hSw
    clear hSw
    go_simp
    all_goals (with_reducible rfl)
  simp only [Act.put, List.setIfInBounds_toArray, List.set_cons_zero, List.set_cons_succ]
  refine wpAnyH_take (i := 9) (oi := Oper.mk (some 16) _ _ _ _ _) (v := ?_) rfl (by kernel_rfl) (by kernel_rfl) (by kernel_rfl) (fun _ _ _ h => h) (Or.inl ⟨by rfl, ?_⟩) (by assumption) ?_
  rotate_left
  · intro w0 hSw
    clear hSw
    go_simp
    all_goals (with_reducible rfl)
  simp only [Act.put, List.setIfInBounds_toArray, List.set_cons_zero, List.set_cons_succ]
  refine wpAnyH_ready (rs := [7]) (by kernel_rfl) (by simp) ?_
  refine AllReadyH.cons (o := Oper.mk (some 14) _ _ _ _ none) rfl (fun K hK => ?_) AllReadyH.nil
  go_simp
  go_at_call 38
  refine (hv2.out _).mono ?_
  rintro x0 Y2 ⟨rfl, hB0⟩
  have hHY2 := OE.later hHY1 hB0
  clear hB0
  go_wp2_with fail
  refine hK.out _ _ hHY2 (fun hHeld => ?_)
  clear hK K hHeld
  (try simp only [Act.put, List.setIfInBounds_toArray, List.set_cons_zero, List.set_cons_succ])
  have d6 : Y2.cell? ⟨w.heap.size, 6, none⟩ = some (.string e.cn) := cell_of_block hHY2.1 6
  have f6 := free_of_block hHY2.1 6
  have d7 : Y2.cell? ⟨w.heap.size, 7, none⟩ = some (.int .i64 e.ak) := cell_of_block hHY2.1 7
  have f7 := free_of_block hHY2.1 7
  have d8 : Y2.cell? ⟨w.heap.size, 8, none⟩ = some (.int .i64 e.an) := cell_of_block hHY2.1 8
  have f8 := free_of_block hHY2.1 8
  have d9 : Y2.cell? ⟨w.heap.size, 9, none⟩ = some (.string e.ax) := cell_of_block hHY2.1 9
  have f9 := free_of_block hHY2.1 9
  refine wpAnyH_ready (rs := [10]) (by kernel_rfl) (by simp) ?_
  refine AllReadyH.cons (o := Oper.mk none _ _ _ _ none) rfl (fun K hK => ?_) AllReadyH.nil
  go_simp
  refine hK.out _ _ (OE.set hHY2 rfl) (fun hHeld2 => ?_)
  clear hK K
  (try simp only [Act.put, List.setIfInBounds_toArray, List.set_cons_zero, List.set_cons_succ])
  refine wpAnyH_take (i := 11) (oi := Oper.mk (some 17) _ _ _ _ _) (v := ?_) rfl (by kernel_rfl) (by kernel_rfl) (by kernel_rfl) (fun _ _ _ h => h) (Or.inl ⟨by rfl, ?_⟩) (by assumption) ?_
  rotate_left
  · intro w0 hSw
    clear hSw
    go_simp
    all_goals (with_reducible rfl)
  simp only [Act.put, List.setIfInBounds_toArray, List.set_cons_zero, List.set_cons_succ]
  refine wpAnyH_take (i := 12) (oi := Oper.mk (some 18) _ _ _ _ _) (v := ?_) rfl (by kernel_rfl) (by kernel_rfl) (by kernel_rfl) (fun _ _ _ h => h) (Or.inl ⟨by rfl, ?_⟩) (by assumption) ?_
  rotate_left
  · intro w0 hSw
    clear hSw
    go_simp
    all_goals (with_reducible rfl)
  simp only [Act.put, List.setIfInBounds_toArray, List.set_cons_zero, List.set_cons_succ]
  refine wpAnyH_ready (rs := [13]) (by kernel_rfl) (by simp) ?_
  refine AllReadyH.cons (o := Oper.mk none _ _ _ _ none) rfl (fun K hK => ?_) AllReadyH.nil
  go_simp
  refine hK.out _ _ (OE.set (OE.set (OE.set hHeld2 rfl) rfl) rfl) (fun hHeld3 => ?_)
  clear hK K
  (try simp only [Act.put, List.setIfInBounds_toArray, List.set_cons_zero, List.set_cons_succ])
  refine wpAnyH_done (by kernel_rfl) ?_ _
  refine NoPanic.normal ?_
  refine gen_exit (fun X => Hid (OE w e X)) hHeld3 ?_
  intro X5 HX5
  clear hHeld hHeld2 hHeld3 hHY1 hHY2 d6 d7 d8 d9 f6 f7 f8 f9 hn2 hv2 hOX HX
  go_wp2_with fail
  have hOX : OE w e X5.drew := ⟨HX5.out.1, HX5.out.2.1, below_drew' HX5.out.2.2⟩
  refine wp_region_noPanic ?_
  refine wp_region_held_drew (S := fun W => OE w e W) (by kernel_rfl) hOX (fun hHeld => ?_)
  refine wpAnyH_take (i := 0) (oi := Oper.mk (some 19) _ _ _ _ _) (v := ?_) rfl (by kernel_rfl) (by kernel_rfl) (by kernel_rfl) (fun _ _ _ h => h) (Or.inl ⟨by rfl, ?_⟩) (by assumption) ?_
  rotate_left
  · intro w0 hSw
    clear hSw
    go_simp
    all_goals (with_reducible rfl)
  simp only [Act.put, List.setIfInBounds_toArray, List.set_cons_zero, List.set_cons_succ]
  refine wpAnyH_take (i := 1) (oi := Oper.mk (some 20) _ _ _ _ _) (v := ?_) rfl (by kernel_rfl) (by kernel_rfl) (by kernel_rfl) (fun _ _ _ h => h) (Or.inl ⟨by rfl, ?_⟩) (by assumption) ?_
  rotate_left
  · intro w0 hSw
    clear hSw
    go_simp
    all_goals (with_reducible rfl)
  simp only [Act.put, List.setIfInBounds_toArray, List.set_cons_zero, List.set_cons_succ]
  refine wpAnyH_take (i := 2) (oi := Oper.mk (some 21) _ _ _ _ _) (v := ?_) rfl (by kernel_rfl) (by kernel_rfl) (by kernel_rfl) (fun _ _ _ h => h) (Or.inl ⟨by rfl, ?_⟩) (by assumption) ?_
  rotate_left
  · intro w0 hSw
    have c12 : w0.cell? ⟨w.heap.size, 12, none⟩ = some (.string e.mn) := cell_of_block hSw.1 12
    clear hSw
    go_simp
    all_goals (with_reducible rfl)
  simp only [Act.put, List.setIfInBounds_toArray, List.set_cons_zero, List.set_cons_succ]
  refine wpAnyH_take (i := 4) (oi := Oper.mk (some 23) _ _ _ _ _) (v := ?_) rfl (by kernel_rfl) (by kernel_rfl) (by kernel_rfl) (fun _ _ _ h => h) (Or.inl ⟨by rfl, ?_⟩) (by assumption) ?_
  rotate_left
  · intro w0 hSw
    clear hSw
    go_simp
    all_goals (with_reducible rfl)
  simp only [Act.put, List.setIfInBounds_toArray, List.set_cons_zero, List.set_cons_succ]
  refine wpAnyH_take (i := 5) (oi := Oper.mk (some 24) _ _ _ _ _) (v := ?_) rfl (by kernel_rfl) (by kernel_rfl) (by kernel_rfl) (fun _ _ _ h => h) (Or.inl ⟨by rfl, ?_⟩) (by assumption) ?_
  rotate_left
  · intro w0 hSw
    clear hSw
    go_simp
    all_goals (with_reducible rfl)
  simp only [Act.put, List.setIfInBounds_toArray, List.set_cons_zero, List.set_cons_succ]
  refine wpAnyH_take (i := 6) (oi := Oper.mk (some 25) _ _ _ _ _) (v := ?_) rfl (by kernel_rfl) (by kernel_rfl) (by kernel_rfl) (fun _ _ _ h => h) (Or.inl ⟨by rfl, ?_⟩) (by assumption) ?_
  rotate_left
  · intro w0 hSw
    have c14 : w0.cell? ⟨w.heap.size, 14, none⟩ = some (.int .i64 e.wk) := cell_of_block hSw.1 14
    have c15 : w0.cell? ⟨w.heap.size, 15, none⟩ = some (.int .i64 e.wn) := cell_of_block hSw.1 15
    have c16 : w0.cell? ⟨w.heap.size, 16, none⟩ = some (.string e.wt) := cell_of_block hSw.1 16
    clear hSw
    go_simp
    all_goals (with_reducible rfl)
  simp only [Act.put, List.setIfInBounds_toArray, List.set_cons_zero, List.set_cons_succ]
  refine wpAnyH_ready (rs := [3]) (by kernel_rfl) (by simp) ?_
  refine AllReadyH.cons (o := Oper.mk (some 22) _ _ _ _ none) rfl (fun K hK => ?_) AllReadyH.nil
  go_simp
  go_at_call 39
  refine (hn3.out _).mono ?_
  rintro x0 Y3 ⟨rfl, hB0⟩
  have hHY3 := OE.later hHeld hB0
  clear hB0
  go_wp2_with fail
  refine hK.out _ _ hHY3 (fun hHeld => ?_)
  clear hK K hHeld
  (try simp only [Act.put, List.setIfInBounds_toArray, List.set_cons_zero, List.set_cons_succ])
  refine wpAnyH_take (i := 8) (oi := Oper.mk (some 27) _ _ _ _ _) (v := ?_) rfl (by kernel_rfl) (by kernel_rfl) (by kernel_rfl) (fun _ _ _ h => h) (Or.inl ⟨by rfl, ?_⟩) (by assumption) ?_
  rotate_left
  · intro w0 hSw
    clear hSw
    go_simp
    all_goals (with_reducible rfl)
  simp only [Act.put, List.setIfInBounds_toArray, List.set_cons_zero, List.set_cons_succ]
  refine wpAnyH_take (i := 9) (oi := Oper.mk (some 28) _ _ _ _ _) (v := ?_) rfl (by kernel_rfl) (by kernel_rfl) (by kernel_rfl) (fun _ _ _ h => h) (Or.inl ⟨by rfl, ?_⟩) (by assumption) ?_
  rotate_left
  · intro w0 hSw
    clear hSw
    go_simp
    all_goals (with_reducible rfl)
  simp only [Act.put, List.setIfInBounds_toArray, List.set_cons_zero, List.set_cons_succ]
  refine wpAnyH_ready (rs := [7]) (by kernel_rfl) (by simp) ?_
  refine AllReadyH.cons (o := Oper.mk (some 26) _ _ _ _ none) rfl (fun K hK => ?_) AllReadyH.nil
  go_simp
  go_at_call 38
  refine (hv3.out _).mono ?_
  rintro x0 Y4 ⟨rfl, hB0⟩
  have hHY4 := OE.later hHY3 hB0
  clear hB0
  go_wp2_with fail
  refine hK.out _ _ hHY4 (fun hHeld => ?_)
  clear hK K hHeld
  (try simp only [Act.put, List.setIfInBounds_toArray, List.set_cons_zero, List.set_cons_succ])
  have d12 : Y4.cell? ⟨w.heap.size, 12, none⟩ = some (.string e.mn) := cell_of_block hHY4.1 12
  have f12 := free_of_block hHY4.1 12
  have d14 : Y4.cell? ⟨w.heap.size, 14, none⟩ = some (.int .i64 e.wk) := cell_of_block hHY4.1 14
  have f14 := free_of_block hHY4.1 14
  have d15 : Y4.cell? ⟨w.heap.size, 15, none⟩ = some (.int .i64 e.wn) := cell_of_block hHY4.1 15
  have f15 := free_of_block hHY4.1 15
  have d16 : Y4.cell? ⟨w.heap.size, 16, none⟩ = some (.string e.wt) := cell_of_block hHY4.1 16
  have f16 := free_of_block hHY4.1 16
  refine wpAnyH_ready (rs := [10]) (by kernel_rfl) (by simp) ?_
  refine AllReadyH.cons (o := Oper.mk none _ _ _ _ none) rfl (fun K hK => ?_) AllReadyH.nil
  go_simp
  refine hK.out _ _ (OE.set hHY4 rfl) (fun hHeld2 => ?_)
  clear hK K
  (try simp only [Act.put, List.setIfInBounds_toArray, List.set_cons_zero, List.set_cons_succ])
  refine wpAnyH_take (i := 11) (oi := Oper.mk (some 29) _ _ _ _ _) (v := ?_) rfl (by kernel_rfl) (by kernel_rfl) (by kernel_rfl) (fun _ _ _ h => h) (Or.inl ⟨by rfl, ?_⟩) (by assumption) ?_
  rotate_left
  · intro w0 hSw
    clear hSw
    go_simp
    all_goals (with_reducible rfl)
  simp only [Act.put, List.setIfInBounds_toArray, List.set_cons_zero, List.set_cons_succ]
  refine wpAnyH_take (i := 12) (oi := Oper.mk (some 30) _ _ _ _ _) (v := ?_) rfl (by kernel_rfl) (by kernel_rfl) (by kernel_rfl) (fun _ _ _ h => h) (Or.inl ⟨by rfl, ?_⟩) (by assumption) ?_
  rotate_left
  · intro w0 hSw
    clear hSw
    go_simp
    all_goals (with_reducible rfl)
  simp only [Act.put, List.setIfInBounds_toArray, List.set_cons_zero, List.set_cons_succ]
  refine wpAnyH_ready (rs := [13]) (by kernel_rfl) (by simp) ?_
  refine AllReadyH.cons (o := Oper.mk none _ _ _ _ none) rfl (fun K hK => ?_) AllReadyH.nil
  go_simp
  refine hK.out _ _ (OE.set (OE.set (OE.set hHeld2 rfl) rfl) rfl) (fun hHeld3 => ?_)
  clear hK K
  (try simp only [Act.put, List.setIfInBounds_toArray, List.set_cons_zero, List.set_cons_succ])
  refine wpAnyH_done (by kernel_rfl) ?_ _
  refine NoPanic.normal ?_
  refine gen_exit (fun X => Hid (OE w e X)) hHeld3 ?_
  intro X6 HX6
  clear hHeld hHeld2 hHeld3 hHY3 hHY4 d12 d14 d15 d16 f12 f14 f15 f16 hn3 hv3 hOX HX5
  obtain ⟨hE, ⟨Z, hZ1, hZ⟩, hXB⟩ := HX6.out
  have HE := hide hE
  have HZ1 := hide hZ1
  have HZ := hide hZ
  have HXB := hide hXB
  clear hE hZ1 hZ hXB HX6
  go_wp2_with (first
    | (with_reducible show wpList _ _ _ (Oper.mk _ (Op.load 46 _) _ _ _ _ :: _) _ _; refine we_load rfl (.tmp 1) rfl w.heap.size rfl _ HE.out (evL_ok e) ?_)
    | (with_reducible show wpList _ _ _ (Oper.mk _ (Op.store 46 _ _) _ _ _ _ :: _) _ _; refine ws55 rfl (.tmp 2) (.tmp 31) rfl (w.heap.size + 1) rfl _ rfl _ HZ1.out HZ.out (evL_ok e) ?_; intro W9 hW9))
  refine bodyPost_ret (results_ev Try.results20 _ W9 (w.heap.size + 1) _ rfl (by rw [hW9.out]; exact setRow_heap _ _ _ _ _ _ HZ1.out) (evL_ok e)) rfl ⟨rfl, ?_⟩
  rw [hW9.out]
  exact below_setRow HXB.out (by omega) _
end Go.Proofs.Ythimglgjeibaoaa
