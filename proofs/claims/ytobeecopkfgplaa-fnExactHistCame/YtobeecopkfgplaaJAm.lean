/- Joined: OwE AlC AlD ImP ImH SpN SpH AwC AwD. -/
import Derived.Test.YtobeecopkfgplaaCln
import Derived.Test.YtobeecopkfgplaaLwT
import Derived.Test.YtobeecopkfgplaaSpD
import Derived.Test.YtobeecopkfgplaaImK
import Derived.Test.YtobeecopkfgplaaSpM
import Derived.Test.YtobeecopkfgplaaEvL
import Derived.Test.YtobeecopkfgplaaImW
/- Copies of values and events, of memory of their own. -/
namespace Go.Proofs.Ytobeecopkfgplaa
open Go.RowKit
set_option linter.unusedVariables false
set_option linter.unusedSimpArgs false
theorem vals3 {W : World} {b : Nat} {x0 x1 x2 : Value} {T : TypeId} (h : W.heap[b]? = some (.cells #[x0, x1, x2] T (0, 0))) : W.cell? ⟨b, 0, none⟩ = some x0 ∧ W.cell? ⟨b, 1, none⟩ = some x1 ∧ W.cell? ⟨b, 2, none⟩ = some x2 :=
  ⟨cell_of_block h 0, cell_of_block h 1, cell_of_block h 2⟩
set_option maxHeartbeats 800000 in
theorem ownVal_any (k n : Int) (t : ByteArray) (ht : t.size ≤ 2000000) (w : World) :
    Calls Try.prog 77 #[vAgg k n t] w fun e w' => e = .returned (vAgg k n t) ∧ Below w.heap.size w w' := by
  have hc := hide (clone_any t (by omega))
  go_enter Try.func77, Try.ntmps77
  go_wp2_with fail
  refine (hc.out _).mono ?_
  rintro e w1 ⟨rfl, hB1⟩
  obtain ⟨ba, bb, hbl⟩ := two_boxes hB1
  obtain ⟨a0, a1, a2⟩ := vals3 ba
  have e2 := free_of_block ba 2
  obtain ⟨r0, r1, r2⟩ := vals3 bb
  have f0 := free_of_block bb 0
  have f1 := free_of_block bb 1
  have f2 := free_of_block bb 2
  have HBB := hide bb
  have HBL := hide hbl
  clear hB1 ba bb hbl
  go_wp2
  generalize hW : ((((w1.setCell ⟨w.heap.size, 2, none⟩ (.string t)).setCell ⟨w.heap.size + 1, 0, none⟩ (.int .i64 k)).setCell ⟨w.heap.size + 1, 1, none⟩ (.int .i64 n)).setCell ⟨w.heap.size + 1, 2, none⟩ (.string t)) = W9
  have hbk : W9.heap[w.heap.size + 1]? = some (.cells #[.int .i64 k, .int .i64 n, .string t] 49 (0, 0)) := by
    have h0 : (w1.setCell ⟨w.heap.size, 2, none⟩ (.string t)).heap[w.heap.size + 1]? = some (.cells #[.int .i64 0, .int .i64 0, .string ⟨#[]⟩] 49 (0, 0)) := (Below.heap_setCell _ _ _ _ (by simp only; omega)).trans HBB.out
    rw [← hW, block_set (block_set (block_set h0 0 _) 1 _) 2 _]
    rfl
  have hbl : Below w.heap.size w W9 := by
    rw [← hW]
    refine (((HBL.out.setCell ?_ _).setCell ?_ _).setCell ?_ _).setCell ?_ _ <;> (simp only; omega)
  clear hW
  obtain ⟨c0, c1, c2⟩ := vals3 hbk
  exact bodyPost_ret (v := vAgg k n t) (by simp [results, Try.results77, go_sem, c0, c1, c2]) rfl ⟨rfl, hbl⟩
/-- an event in a box, what is handed back, nothing else turned -/
def OE (w : World) (e : Ev) (X : World) : Prop := X.heap[w.heap.size]? = some (.cells (evL e).toArray 55 (0, 0)) ∧ (∃ Z, X.heap[w.heap.size + 1]? = some (.cells Z 55 (0, 0)) ∧ Z.size = 17) ∧ Below w.heap.size w X
theorem OE.later {w X X1 : World} {e : Ev} (h : OE w e X) (hB : Below X.heap.size X X1) : OE w e X1 := by
  obtain ⟨h0, ⟨Z, h1, hZ⟩, hb⟩ := h
  have l0 := (Array.getElem?_eq_some_iff.1 h0).1
  have l1 := (Array.getElem?_eq_some_iff.1 h1).1
  exact ⟨(hB.block _ l0).trans h0, ⟨Z, (hB.block _ l1).trans h1, hZ⟩, hb.trans (hB.mono hb.size)⟩
/-- a cell written with what it holds -/
theorem OE.set {w X : World} {e : Ev} (h : OE w e X) {i : Nat} {v : Value} (hv : (evL e).toArray.setIfInBounds i v = (evL e).toArray) : OE w e (X.setCell ⟨w.heap.size, i, none⟩ v) := by
  obtain ⟨h0, ⟨Z, h1, hZ⟩, hb⟩ := h
  have := block_set h0 i v
  rw [hv] at this
  exact ⟨this, ⟨Z, (Below.heap_setCell _ _ _ _ (by simp only; omega)).trans h1, hZ⟩, hb.setCell (by simp only; omega) _⟩
/-- texts that are no longer than anything that is ever copied -/
def Ev.Small (e : Ev) : Prop := e.vt.size ≤ 2000000 ∧ e.cn.size ≤ 2000000 ∧ e.ax.size ≤ 2000000 ∧ e.mn.size ≤ 2000000 ∧ e.wt.size ≤ 2000000
set_option maxRecDepth 100000 in
set_option maxHeartbeats 3200000 in
theorem ownEvent_any (e : Ev) (hsm : e.Small) (w : World) :
    Calls Try.prog 67 #[evV e] w fun x w' => x = .returned (evV e) ∧ Below w.heap.size w w' := by
  obtain ⟨s1, s2, s3, s4, s5⟩ := hsm
  have hv := hide (ownVal_any e.vk e.vn e.vt s1)
  have hn2 := hide (clone_any e.cn (by omega))
  have hv2 := hide (ownVal_any e.ak e.an e.ax s3)
  have hn3 := hide (clone_any e.mn (by omega))
  have hv3 := hide (ownVal_any e.wk e.wn e.wt s5)
  clear s1 s2 s3 s4 s5
  go_enter Try.func67, Try.ntmps67
  go_wp2_with fail
  refine (hv.out _).mono ?_
  rintro x1 X1 ⟨rfl, hB1⟩
  have HX1 : Hid (OE w e X1) := OE.later ⟨top2 _ _ _, ⟨_, top2' _ _ _, rfl⟩, ((Below.refl _ _).alloc (Nat.le_refl _) _).alloc (by simp) _⟩ hB1
  have a1 : X1.cell? ⟨w.heap.size, 1, none⟩ = some (.int .i64 e.vk) := cell_of_block HX1.out.1 1
  have a2 : X1.cell? ⟨w.heap.size, 2, none⟩ = some (.int .i64 e.vn) := cell_of_block HX1.out.1 2
  have a3 : X1.cell? ⟨w.heap.size, 3, none⟩ = some (.string e.vt) := cell_of_block HX1.out.1 3
  have f1 := free_of_block HX1.out.1 1
  have f2 := free_of_block HX1.out.1 2
  have f3 := free_of_block HX1.out.1 3
  have HX2 : Hid (OE w e (((X1.setCell ⟨w.heap.size, 1, none⟩ (.int .i64 e.vk)).setCell ⟨w.heap.size, 2, none⟩ (.int .i64 e.vn)).setCell ⟨w.heap.size, 3, none⟩ (.string e.vt))) := OE.set (OE.set (OE.set HX1.out rfl) rfl) rfl
  clear hB1 hv HX1
  go_wp2_with fail
  refine gen_code (fun X => Hid (OE w e X)) HX2 ?_
  intro X HX
  clear HX2 a1 a2 a3 f1 f2 f3
  have hOX : OE w e X.drew := ⟨HX.out.1, HX.out.2.1, below_drew' HX.out.2.2⟩
  refine wp_region_noPanic ?_
  refine wp_region_held_drew (S := fun W => OE w e W) (by kernel_rfl) hOX (fun hHeld => ?_)
  refine wpAnyH_take (i := 0) (oi := Oper.mk (some 7) _ _ _ _ _) (v := ?_) rfl (by kernel_rfl) (by kernel_rfl) (by kernel_rfl) (fun _ _ _ h => h) (Or.inl ⟨by rfl, ?_⟩) (by assumption) ?_
  rotate_left
  · intro w0 hSw
    clear hSw
    go_simp
    all_goals (with_reducible rfl)
  simp only [Act.put, List.setIfInBounds_toArray, List.set_cons_zero, List.set_cons_succ]
  refine wpAnyH_take (i := 1) (oi := Oper.mk (some 8) _ _ _ _ _) (v := ?_) rfl (by kernel_rfl) (by kernel_rfl) (by kernel_rfl) (fun _ _ _ h => h) (Or.inl ⟨by rfl, ?_⟩) (by assumption) ?_
  rotate_left
  · intro w0 hSw
    clear hSw
    go_simp
    all_goals (with_reducible rfl)
  simp only [Act.put, List.setIfInBounds_toArray, List.set_cons_zero, List.set_cons_succ]
  refine wpAnyH_take (i := 2) (oi := Oper.mk (some 9) _ _ _ _ _) (v := ?_) rfl (by kernel_rfl) (by kernel_rfl) (by kernel_rfl) (fun _ _ _ h => h) (Or.inl ⟨by rfl, ?_⟩) (by assumption) ?_
  rotate_left
  · intro w0 hSw
    have c6 : w0.cell? ⟨w.heap.size, 6, none⟩ = some (.string e.cn) := cell_of_block hSw.1 6
    clear hSw
    go_simp
    all_goals (with_reducible rfl)
  simp only [Act.put, List.setIfInBounds_toArray, List.set_cons_zero, List.set_cons_succ]
  refine wpAnyH_take (i := 4) (oi := Oper.mk (some 11) _ _ _ _ _) (v := ?_) rfl (by kernel_rfl) (by kernel_rfl) (by kernel_rfl) (fun _ _ _ h => h) (Or.inl ⟨by rfl, ?_⟩) (by assumption) ?_
  rotate_left
  · intro w0 hSw
    clear hSw
    go_simp
    all_goals (with_reducible rfl)
  simp only [Act.put, List.setIfInBounds_toArray, List.set_cons_zero, List.set_cons_succ]
  refine wpAnyH_take (i := 5) (oi := Oper.mk (some 12) _ _ _ _ _) (v := ?_) rfl (by kernel_rfl) (by kernel_rfl) (by kernel_rfl) (fun _ _ _ h => h) (Or.inl ⟨by rfl, ?_⟩) (by assumption) ?_
  rotate_left
  · intro w0 hSw
    clear hSw
    go_simp
    all_goals (with_reducible rfl)
  simp only [Act.put, List.setIfInBounds_toArray, List.set_cons_zero, List.set_cons_succ]
  refine wpAnyH_take (i := 6) (oi := Oper.mk (some 13) _ _ _ _ _) (v := ?_) rfl (by kernel_rfl) (by kernel_rfl) (by kernel_rfl) (fun _ _ _ h => h) (Or.inl ⟨by rfl, ?_⟩) (by assumption) ?_
  rotate_left
  · intro w0 hSw
    have c7 : w0.cell? ⟨w.heap.size, 7, none⟩ = some (.int .i64 e.ak) := cell_of_block hSw.1 7
    have c8 : w0.cell? ⟨w.heap.size, 8, none⟩ = some (.int .i64 e.an) := cell_of_block hSw.1 8
    have c9 : w0.cell? ⟨w.heap.size, 9, none⟩ = some (.string e.ax) := cell_of_block hSw.1 9
    clear hSw
    go_simp
    all_goals (with_reducible rfl)
  simp only [Act.put, List.setIfInBounds_toArray, List.set_cons_zero, List.set_cons_succ]
  refine wpAnyH_ready (rs := [3]) (by kernel_rfl) (by simp) ?_
  refine AllReadyH.cons (o := Oper.mk (some 10) _ _ _ _ none) rfl (fun K hK => ?_) AllReadyH.nil
  go_simp
  go_at_call 78
  refine (hn2.out _).mono ?_
  rintro x0 Y1 ⟨rfl, hB0⟩
  have hHY1 := OE.later hHeld hB0
  clear hB0
  go_wp2_with fail
  refine hK.out _ _ hHY1 (fun hHeld => ?_)
  clear hK K hHeld
  (try simp only [Act.put, List.setIfInBounds_toArray, List.set_cons_zero, List.set_cons_succ])
  refine wpAnyH_take (i := 8) (oi := Oper.mk (some 15) _ _ _ _ _) (v := ?_) rfl (by kernel_rfl) (by kernel_rfl) (by kernel_rfl) (fun _ _ _ h => h) (Or.inl ⟨by rfl, ?_⟩) (by assumption) ?_
  rotate_left
  · intro w0 hSw
    clear hSw
    go_simp
    all_goals (with_reducible rfl)
  simp only [Act.put, List.setIfInBounds_toArray, List.set_cons_zero, List.set_cons_succ]
  refine wpAnyH_take (i := 9) (oi := Oper.mk (some 16) _ _ _ _ _) (v := ?_) rfl (by kernel_rfl) (by kernel_rfl) (by kernel_rfl) (fun _ _ _ h => h) (Or.inl ⟨by rfl, ?_⟩) (by assumption) ?_
  rotate_left
  · intro w0 hSw
    clear hSw
    go_simp
    all_goals (with_reducible rfl)
  simp only [Act.put, List.setIfInBounds_toArray, List.set_cons_zero, List.set_cons_succ]
  refine wpAnyH_ready (rs := [7]) (by kernel_rfl) (by simp) ?_
  refine AllReadyH.cons (o := Oper.mk (some 14) _ _ _ _ none) rfl (fun K hK => ?_) AllReadyH.nil
  go_simp
  go_at_call 77
  refine (hv2.out _).mono ?_
  rintro x0 Y2 ⟨rfl, hB0⟩
  have hHY2 := OE.later hHY1 hB0
  clear hB0
  go_wp2_with fail
  refine hK.out _ _ hHY2 (fun hHeld => ?_)
  clear hK K hHeld
  (try simp only [Act.put, List.setIfInBounds_toArray, List.set_cons_zero, List.set_cons_succ])
  have d6 : Y2.cell? ⟨w.heap.size, 6, none⟩ = some (.string e.cn) := cell_of_block hHY2.1 6
  have f6 := free_of_block hHY2.1 6
  have d7 : Y2.cell? ⟨w.heap.size, 7, none⟩ = some (.int .i64 e.ak) := cell_of_block hHY2.1 7
  have f7 := free_of_block hHY2.1 7
  have d8 : Y2.cell? ⟨w.heap.size, 8, none⟩ = some (.int .i64 e.an) := cell_of_block hHY2.1 8
  have f8 := free_of_block hHY2.1 8
  have d9 : Y2.cell? ⟨w.heap.size, 9, none⟩ = some (.string e.ax) := cell_of_block hHY2.1 9
  have f9 := free_of_block hHY2.1 9
  refine wpAnyH_ready (rs := [10]) (by kernel_rfl) (by simp) ?_
  refine AllReadyH.cons (o := Oper.mk none _ _ _ _ none) rfl (fun K hK => ?_) AllReadyH.nil
  go_simp
  refine hK.out _ _ (OE.set hHY2 rfl) (fun hHeld2 => ?_)
  clear hK K
  (try simp only [Act.put, List.setIfInBounds_toArray, List.set_cons_zero, List.set_cons_succ])
  refine wpAnyH_take (i := 11) (oi := Oper.mk (some 17) _ _ _ _ _) (v := ?_) rfl (by kernel_rfl) (by kernel_rfl) (by kernel_rfl) (fun _ _ _ h => h) (Or.inl ⟨by rfl, ?_⟩) (by assumption) ?_
  rotate_left
  · intro w0 hSw
    clear hSw
    go_simp
    all_goals (with_reducible rfl)
  simp only [Act.put, List.setIfInBounds_toArray, List.set_cons_zero, List.set_cons_succ]
  refine wpAnyH_take (i := 12) (oi := Oper.mk (some 18) _ _ _ _ _) (v := ?_) rfl (by kernel_rfl) (by kernel_rfl) (by kernel_rfl) (fun _ _ _ h => h) (Or.inl ⟨by rfl, ?_⟩) (by assumption) ?_
  rotate_left
  · intro w0 hSw
    clear hSw
    go_simp
    all_goals (with_reducible rfl)
  simp only [Act.put, List.setIfInBounds_toArray, List.set_cons_zero, List.set_cons_succ]
  refine wpAnyH_ready (rs := [13]) (by kernel_rfl) (by simp) ?_
  refine AllReadyH.cons (o := Oper.mk none _ _ _ _ none) rfl (fun K hK => ?_) AllReadyH.nil
  go_simp
  refine hK.out _ _ (OE.set (OE.set (OE.set hHeld2 rfl) rfl) rfl) (fun hHeld3 => ?_)
  clear hK K
  (try simp only [Act.put, List.setIfInBounds_toArray, List.set_cons_zero, List.set_cons_succ])
  refine wpAnyH_done (by kernel_rfl) ?_ _
  refine NoPanic.normal ?_
  refine gen_exit (fun X => Hid (OE w e X)) hHeld3 ?_
  intro X5 HX5
  clear hHeld hHeld2 hHeld3 hHY1 hHY2 d6 d7 d8 d9 f6 f7 f8 f9 hn2 hv2 hOX HX
  go_wp2_with fail
  have hOX : OE w e X5.drew := ⟨HX5.out.1, HX5.out.2.1, below_drew' HX5.out.2.2⟩
  refine wp_region_noPanic ?_
  refine wp_region_held_drew (S := fun W => OE w e W) (by kernel_rfl) hOX (fun hHeld => ?_)
  refine wpAnyH_take (i := 0) (oi := Oper.mk (some 19) _ _ _ _ _) (v := ?_) rfl (by kernel_rfl) (by kernel_rfl) (by kernel_rfl) (fun _ _ _ h => h) (Or.inl ⟨by rfl, ?_⟩) (by assumption) ?_
  rotate_left
  · intro w0 hSw
    clear hSw
    go_simp
    all_goals (with_reducible rfl)
  simp only [Act.put, List.setIfInBounds_toArray, List.set_cons_zero, List.set_cons_succ]
  refine wpAnyH_take (i := 1) (oi := Oper.mk (some 20) _ _ _ _ _) (v := ?_) rfl (by kernel_rfl) (by kernel_rfl) (by kernel_rfl) (fun _ _ _ h => h) (Or.inl ⟨by rfl, ?_⟩) (by assumption) ?_
  rotate_left
  · intro w0 hSw
    clear hSw
    go_simp
    all_goals (with_reducible rfl)
  simp only [Act.put, List.setIfInBounds_toArray, List.set_cons_zero, List.set_cons_succ]
  refine wpAnyH_take (i := 2) (oi := Oper.mk (some 21) _ _ _ _ _) (v := ?_) rfl (by kernel_rfl) (by kernel_rfl) (by kernel_rfl) (fun _ _ _ h => h) (Or.inl ⟨by rfl, ?_⟩) (by assumption) ?_
  rotate_left
  · intro w0 hSw
    have c12 : w0.cell? ⟨w.heap.size, 12, none⟩ = some (.string e.mn) := cell_of_block hSw.1 12
    clear hSw
    go_simp
    all_goals (with_reducible rfl)
  simp only [Act.put, List.setIfInBounds_toArray, List.set_cons_zero, List.set_cons_succ]
  refine wpAnyH_take (i := 4) (oi := Oper.mk (some 23) _ _ _ _ _) (v := ?_) rfl (by kernel_rfl) (by kernel_rfl) (by kernel_rfl) (fun _ _ _ h => h) (Or.inl ⟨by rfl, ?_⟩) (by assumption) ?_
  rotate_left
  · intro w0 hSw
    clear hSw
    go_simp
    all_goals (with_reducible rfl)
  simp only [Act.put, List.setIfInBounds_toArray, List.set_cons_zero, List.set_cons_succ]
  refine wpAnyH_take (i := 5) (oi := Oper.mk (some 24) _ _ _ _ _) (v := ?_) rfl (by kernel_rfl) (by kernel_rfl) (by kernel_rfl) (fun _ _ _ h => h) (Or.inl ⟨by rfl, ?_⟩) (by assumption) ?_
  rotate_left
  · intro w0 hSw
    clear hSw
    go_simp
    all_goals (with_reducible rfl)
  simp only [Act.put, List.setIfInBounds_toArray, List.set_cons_zero, List.set_cons_succ]
  refine wpAnyH_take (i := 6) (oi := Oper.mk (some 25) _ _ _ _ _) (v := ?_) rfl (by kernel_rfl) (by kernel_rfl) (by kernel_rfl) (fun _ _ _ h => h) (Or.inl ⟨by rfl, ?_⟩) (by assumption) ?_
  rotate_left
  · intro w0 hSw
    have c14 : w0.cell? ⟨w.heap.size, 14, none⟩ = some (.int .i64 e.wk) := cell_of_block hSw.1 14
    have c15 : w0.cell? ⟨w.heap.size, 15, none⟩ = some (.int .i64 e.wn) := cell_of_block hSw.1 15
    have c16 : w0.cell? ⟨w.heap.size, 16, none⟩ = some (.string e.wt) := cell_of_block hSw.1 16
    clear hSw
    go_simp
    all_goals (with_reducible rfl)
  simp only [Act.put, List.setIfInBounds_toArray, List.set_cons_zero, List.set_cons_succ]
  refine wpAnyH_ready (rs := [3]) (by kernel_rfl) (by simp) ?_
  refine AllReadyH.cons (o := Oper.mk (some 22) _ _ _ _ none) rfl (fun K hK => ?_) AllReadyH.nil
  go_simp
  go_at_call 78
  refine (hn3.out _).mono ?_
  rintro x0 Y3 ⟨rfl, hB0⟩
  have hHY3 := OE.later hHeld hB0
  clear hB0
  go_wp2_with fail
  refine hK.out _ _ hHY3 (fun hHeld => ?_)
  clear hK K hHeld
  (try simp only [Act.put, List.setIfInBounds_toArray, List.set_cons_zero, List.set_cons_succ])
  refine wpAnyH_take (i := 8) (oi := Oper.mk (some 27) _ _ _ _ _) (v := ?_) rfl (by kernel_rfl) (by kernel_rfl) (by kernel_rfl) (fun _ _ _ h => h) (Or.inl ⟨by rfl, ?_⟩) (by assumption) ?_
  rotate_left
  · intro w0 hSw
    clear hSw
    go_simp
    all_goals (with_reducible rfl)
  simp only [Act.put, List.setIfInBounds_toArray, List.set_cons_zero, List.set_cons_succ]
  refine wpAnyH_take (i := 9) (oi := Oper.mk (some 28) _ _ _ _ _) (v := ?_) rfl (by kernel_rfl) (by kernel_rfl) (by kernel_rfl) (fun _ _ _ h => h) (Or.inl ⟨by rfl, ?_⟩) (by assumption) ?_
  rotate_left
  · intro w0 hSw
    clear hSw
    go_simp
    all_goals (with_reducible rfl)
  simp only [Act.put, List.setIfInBounds_toArray, List.set_cons_zero, List.set_cons_succ]
  refine wpAnyH_ready (rs := [7]) (by kernel_rfl) (by simp) ?_
  refine AllReadyH.cons (o := Oper.mk (some 26) _ _ _ _ none) rfl (fun K hK => ?_) AllReadyH.nil
  go_simp
  go_at_call 77
  refine (hv3.out _).mono ?_
  rintro x0 Y4 ⟨rfl, hB0⟩
  have hHY4 := OE.later hHY3 hB0
  clear hB0
  go_wp2_with fail
  refine hK.out _ _ hHY4 (fun hHeld => ?_)
  clear hK K hHeld
  (try simp only [Act.put, List.setIfInBounds_toArray, List.set_cons_zero, List.set_cons_succ])
  have d12 : Y4.cell? ⟨w.heap.size, 12, none⟩ = some (.string e.mn) := cell_of_block hHY4.1 12
  have f12 := free_of_block hHY4.1 12
  have d14 : Y4.cell? ⟨w.heap.size, 14, none⟩ = some (.int .i64 e.wk) := cell_of_block hHY4.1 14
  have f14 := free_of_block hHY4.1 14
  have d15 : Y4.cell? ⟨w.heap.size, 15, none⟩ = some (.int .i64 e.wn) := cell_of_block hHY4.1 15
  have f15 := free_of_block hHY4.1 15
  have d16 : Y4.cell? ⟨w.heap.size, 16, none⟩ = some (.string e.wt) := cell_of_block hHY4.1 16
  have f16 := free_of_block hHY4.1 16
  refine wpAnyH_ready (rs := [10]) (by kernel_rfl) (by simp) ?_
  refine AllReadyH.cons (o := Oper.mk none _ _ _ _ none) rfl (fun K hK => ?_) AllReadyH.nil
  go_simp
  refine hK.out _ _ (OE.set hHY4 rfl) (fun hHeld2 => ?_)
  clear hK K
  (try simp only [Act.put, List.setIfInBounds_toArray, List.set_cons_zero, List.set_cons_succ])
  refine wpAnyH_take (i := 11) (oi := Oper.mk (some 29) _ _ _ _ _) (v := ?_) rfl (by kernel_rfl) (by kernel_rfl) (by kernel_rfl) (fun _ _ _ h => h) (Or.inl ⟨by rfl, ?_⟩) (by assumption) ?_
  rotate_left
  · intro w0 hSw
    clear hSw
    go_simp
    all_goals (with_reducible rfl)
  simp only [Act.put, List.setIfInBounds_toArray, List.set_cons_zero, List.set_cons_succ]
  refine wpAnyH_take (i := 12) (oi := Oper.mk (some 30) _ _ _ _ _) (v := ?_) rfl (by kernel_rfl) (by kernel_rfl) (by kernel_rfl) (fun _ _ _ h => h) (Or.inl ⟨by rfl, ?_⟩) (by assumption) ?_
  rotate_left
  · intro w0 hSw
    clear hSw
    go_simp
    all_goals (with_reducible rfl)
  simp only [Act.put, List.setIfInBounds_toArray, List.set_cons_zero, List.set_cons_succ]
  refine wpAnyH_ready (rs := [13]) (by kernel_rfl) (by simp) ?_
  refine AllReadyH.cons (o := Oper.mk none _ _ _ _ none) rfl (fun K hK => ?_) AllReadyH.nil
  go_simp
  refine hK.out _ _ (OE.set (OE.set (OE.set hHeld2 rfl) rfl) rfl) (fun hHeld3 => ?_)
  clear hK K
  (try simp only [Act.put, List.setIfInBounds_toArray, List.set_cons_zero, List.set_cons_succ])
  refine wpAnyH_done (by kernel_rfl) ?_ _
  refine NoPanic.normal ?_
  refine gen_exit (fun X => Hid (OE w e X)) hHeld3 ?_
  intro X6 HX6
  clear hHeld hHeld2 hHeld3 hHY3 hHY4 d12 d14 d15 d16 f12 f14 f15 f16 hn3 hv3 hOX HX5
  obtain ⟨hE, ⟨Z, hZ1, hZ⟩, hXB⟩ := HX6.out
  have HE := hide hE
  have HZ1 := hide hZ1
  have HZ := hide hZ
  have HXB := hide hXB
  clear hE hZ1 hZ hXB HX6
  go_wp2_with (first
    | (with_reducible show wpList _ _ _ (Oper.mk _ (Op.load 55 _) _ _ _ _ :: _) _ _; refine we_load rfl (.tmp 1) rfl w.heap.size rfl _ HE.out (evL_ok e) ?_)
    | (with_reducible show wpList _ _ _ (Oper.mk _ (Op.store 55 _ _) _ _ _ _ :: _) _ _; refine ws55 rfl (.tmp 2) (.tmp 31) rfl (w.heap.size + 1) rfl _ rfl _ HZ1.out HZ.out (evL_ok e) ?_; intro W9 hW9))
  refine bodyPost_ret (results_ev Try.results67 _ W9 (w.heap.size + 1) _ rfl (by rw [hW9.out]; exact setRow_heap _ _ _ _ _ _ HZ1.out) (evL_ok e)) rfl ⟨rfl, ?_⟩
  rw [hW9.out]
  exact below_setRow HXB.out (by omega) _
end Go.Proofs.Ytobeecopkfgplaa

/- What was asked for, or what came, gathered by the program: one event. -/
namespace Go.Proofs.Ytobeecopkfgplaa
open Go.RowKit
set_option linter.unusedVariables false
set_option linter.unusedSimpArgs false
theorem yle {ops : Array Oper} {S : World → Prop} {o : Oper} {a : Act} (hw : Region.wanted o (yielded ops a.tmps) = true) (x : Operand) (ho : o.op = .load 55 x)
    (g : Nat) (hx : a.eval x = .pointer (some ⟨g, 0, none⟩)) (cs : Array Value) (hS : ∀ W, S W → W.heap[g]? = some (.cells cs 55 (0, 0))) (hs : Okv cs) : YieldsIf Try.prog ops S o (.agg cs) a :=
  .inl ⟨hw, fun W hW => by
    unfold execOp
    simp only [ho, hx, Instr.loadAt, Instr.sureAddr, Sem.run_bind, Sem.run_pure, Result.andThen_ok, run_loadVar_row (P := Try.prog) W g 55 55 cs (0, 0) _ (hS W hW) Try.underlying55 rfl (by rw [infoEv, hs.1])]⟩
set_option maxRecDepth 100000 in
set_option maxHeartbeats 1600000 in
theorem partCmds_any (e : Ev) (w : World) :
    Calls Try.prog 44 #[evV e] w fun x w' => x = .returned (.agg #[.int .i64 e.ck, .string e.cn, .int .i64 e.ak, .int .i64 e.an, .string e.ax]) ∧ Below w.heap.size w w' := by
  go_enter Try.func44, Try.ntmps44
  go_wp2
  refine bodyPost_ret (v := .agg #[.int .i64 e.ck, .string e.cn, .int .i64 e.ak, .int .i64 e.an, .string e.ax]) (by simp [results, Try.results44, go_sem]) rfl ⟨rfl, ((Below.refl _ _).alloc (Nat.le_refl _) _).alloc (by simp) _⟩
theorem st_app_cmd {ops : Array Oper} {o : Oper} {a : Act} {W : World} {K : Act → World → Prop} {Q : Exit → Act → World → Prop} {E : Prop} (hg : o.guard = none) (s x : Operand)
    (hop : o.op = Op.call { callee := Callee.builtin Builtin.append, args := #[s, x], argTypes := #[30, 30] }) (hty : o.type = 30) (base : Nat) (A : List Ev) (e : Ev) (v : Value) (ad : Addr) (c : Nat) (hs : a.eval s = v) (hx : a.eval x = .slice (some ad) 1 c)
    (hv : W.ownsRow base 51 5 v A.length (A.flatMap cmL)) (hu : ∀ j u, (cmL e)[j]? = some u → W.cell? (ad.add j) = some u) (hn : A.length + 1 ≤ 4194304) (hb : base ≤ W.heap.size)
    (hK : ∀ v' w2, Hid (w2.ownsRow base 51 5 v' (A ++ [e]).length ((A ++ [e]).flatMap cmL)) → Hid (W.grownBy w2 v.ownBlock) → K (a.put o.dst v') w2) :
    if Region.wanted o (yielded ops a.tmps) = true then Oper.wp Try.prog o a W K Q else E := by
  rw [if_pos (by simp [Region.wanted, hg])]
  obtain ⟨v', w2, hrun, h1, h2⟩ := app_cmd e hv ad c hu hn hb
  unfold Oper.wp
  simp [execOp, hop, resolve, invoke, builtin, hs, hx, hty, hrun, Result.andThen]
  exact hK _ _ h1 h2
abbrev partCmdsV : Value := .func (.func 44) #[] #[]
def SCmds (base b : Nat) (e : Ev) (W Y : World) : Prop := Y.heap[b]? = some (.cells (evL e).toArray 55 (0, 0)) ∧ Below base W Y
set_option maxRecDepth 100000 in
set_option maxHeartbeats 3200000 in
theorem gatherCmds (e : Ev) (hsm : e.Small) (hk : e.k = 3) (A : List Ev) (hA : A.length ≤ 1048576) (all : Value) (base gk gp : Nat) (W : World) (ho : W.ownsRow base 51 5 all A.length (A.flatMap cmL)) (hb : base ≤ W.heap.size)
    (hgk : gk < base) (hgp : gp < base) (ck : W.cell? ⟨gk, 0, none⟩ = some (.int .i64 3)) (cp : W.cell? ⟨gp, 0, none⟩ = some partCmdsV) :
    Calls Try.prog 66 #[all, evV e, .pointer (some ⟨gk, 0, none⟩), .pointer (some ⟨gp, 0, none⟩)] W fun x w' => ∃ v', x = .returned (.tuple #[v', .bool true]) ∧ w'.ownsRow base 51 5 v' (A ++ [e]).length ((A ++ [e]).flatMap cmL) ∧ Below base W w' := by
  obtain ⟨av, cv, hav⟩ := ownsRow_form ho
  subst hav
  have HO := hide ho
  have how := hide (ownEvent_any e hsm)
  have hpa := hide (partCmds_any e)
  have HCP := hide cp
  have q1 : (e.k == 3) = true := by simp [hk]
  clear ho hsm hk
  have hgkW : gk < W.heap.size := by omega
  have hgpW : gp < W.heap.size := by omega
  go_enter Try.func66, Try.ntmps66
  go_wp2_with fail
  refine gen_code (fun X => Hid (X.heap[W.heap.size]? = some (.cells (evL e).toArray 55 (0, 0)) ∧ Below base W X ∧ X.ownsRow base 51 5 (.slice av A.length cv) A.length (A.flatMap cmL))) ⟨top1 _ _, (Below.refl _ _).alloc hb _, ownsRow_later HO.out ((Below.refl _ _).alloc (Nat.le_refl _) _)⟩ ?_
  intro X HX
  have HSX : SCmds base W.heap.size e W X.drew := ⟨HX.out.1, below_drew' HX.out.2.1⟩
  refine wp_region_noPanic ?_
  refine wp_region_held_drew (S := SCmds base W.heap.size e W) (by kernel_rfl) HSX (fun hHeld => ?_)
  refine wpAnyH_take (i := 0) (oi := Oper.mk (some 12) _ _ _ _ _) (v := ?_) rfl (by kernel_rfl) (by kernel_rfl) (by kernel_rfl) (fun _ _ _ h => h) (Or.inl ⟨by rfl, ?_⟩) (by assumption) ?_
  rotate_left
  · intro w0 hSw
    clear hSw
    go_simp
    all_goals (with_reducible rfl)
  simp only [Act.put, List.setIfInBounds_toArray, List.set_cons_zero, List.set_cons_succ]
  refine wpAnyH_take (i := 1) (oi := Oper.mk (some 13) _ _ _ _ _) (v := ?_) rfl (by kernel_rfl) (by kernel_rfl) (by kernel_rfl) (fun _ _ _ h => h) (Or.inl ⟨by rfl, ?_⟩) (by assumption) ?_
  rotate_left
  · intro w0 hSw
    have z : w0.cell? ⟨gp, 0, none⟩ = some partCmdsV := (Below.cell hSw.2 (p := ⟨gp, 0, none⟩) hgp).trans HCP.out
    clear hSw
    go_simp
    all_goals (with_reducible rfl)
  simp only [Act.put, List.setIfInBounds_toArray, List.set_cons_zero, List.set_cons_succ]
  refine wpAnyH_take (i := 2) (oi := Oper.mk (some 14) _ _ _ _ _) (v := evV e) rfl (by kernel_rfl) (by kernel_rfl) (by kernel_rfl) (fun _ _ _ h => h) (yle (by rfl) (.tmp 5) rfl W.heap.size rfl (evL e).toArray (fun _ h => h.1) (evL_ok e)) (by assumption) ?_
  simp only [Act.put, List.setIfInBounds_toArray, List.set_cons_zero, List.set_cons_succ]
  have HO0 : Hid (X.drew.ownsRow base 51 5 (.slice av A.length cv) A.length (A.flatMap cmL)) := HX.out.2.2
  refine wpAnyH_ready (rs := [3]) (by kernel_rfl) (by simp) ?_
  refine AllReadyH.cons (o := Oper.mk (some 15) _ _ _ _ none) rfl (fun K hK => ?_) AllReadyH.nil
  go_simp
  go_at_call 67
  refine (how.out _).mono ?_
  rintro x0 Y1 ⟨rfl, hB0⟩
  have hHY1 : SCmds base W.heap.size e W Y1 := ⟨(hB0.block _ (Array.getElem?_eq_some_iff.1 (And.left HSX)).1).trans (And.left HSX), Below.trans (And.right HSX) (hB0.mono (Nat.le_trans hb (And.right HSX).size))⟩
  have HOY1 := hide (ownsRow_later HO0.out hB0)
  clear hB0
  go_wp2_with fail
  refine hK.out _ _ hHY1 (fun hHeld9 => ?_)
  clear hK K hHeld9
  (try simp only [Act.put, List.setIfInBounds_toArray, List.set_cons_zero, List.set_cons_succ])
  refine wpAnyH_ready (rs := [4]) (by kernel_rfl) (by simp) ?_
  refine AllReadyH.cons (o := Oper.mk (some 16) _ _ _ _ none) rfl (fun K hK => ?_) AllReadyH.nil
  go_simp
  go_at_call 44
  refine (hpa.out _).mono ?_
  rintro x0 Y2 ⟨rfl, hB0⟩
  have hHY2 : SCmds base W.heap.size e W Y2 := ⟨(hB0.block _ (Array.getElem?_eq_some_iff.1 (And.left hHY1)).1).trans (And.left hHY1), Below.trans (And.right hHY1) (hB0.mono (Nat.le_trans hb (And.right hHY1).size))⟩
  have HOY2 := hide (ownsRow_later HOY1.out hB0)
  clear hB0
  go_wp2_with fail
  refine hK.out _ _ hHY2 (fun hHeld9 => ?_)
  clear hK K hHeld9
  (try simp only [Act.put, List.setIfInBounds_toArray, List.set_cons_zero, List.set_cons_succ])
  refine wpAnyH_ready (rs := [5]) (by kernel_rfl) (by simp) ?_
  refine AllReadyH.cons (o := Oper.mk (some 17) _ _ _ _ none) rfl (fun K hK => ?_) AllReadyH.nil
  go_simp
  have hl2 := (Array.getElem?_eq_some_iff.1 (And.left hHY2)).1
  have hH3 : SCmds base W.heap.size e W (Y2.alloc (.cells (cmL e).toArray 51)) := ⟨alloc_keeps (And.left hHY2), Below.alloc (And.right hHY2) (Nat.le_trans hb (And.right hHY2).size) _⟩
  refine hK.out _ _ hH3 (fun hHeld9 => ?_)
  clear hK K hHeld9
  (try simp only [Act.put, List.setIfInBounds_toArray, List.set_cons_zero, List.set_cons_succ])
  have HO3 := hide (ownsRow_later HOY2.out ((Below.refl _ _).alloc (Nat.le_refl _) (.cells (cmL e).toArray 51)))
  refine wpAnyH_ready (rs := [6]) (by kernel_rfl) (by simp) ?_
  refine AllReadyH.cons (o := Oper.mk (some 18) (Op.call (Call.mk (Callee.builtin Builtin.append) #[Operand.tmp 12, Operand.tmp 17] #[30, 30])) 30 _ _ none) rfl (fun K hK => ?_) AllReadyH.nil
  refine st_app_cmd rfl (.tmp 12) (.tmp 17) rfl rfl base A e _ ⟨Y2.heap.size, 0, none⟩ 1 rfl rfl HO3.out (cells_top _ _ _) (by omega) (Nat.le_trans (Nat.le_trans hb (And.right hHY2).size) (alloc_le (Nat.le_refl _))) ?_
  intro v2 w2 hv2 hg2
  have hrow : ∀ k, (Value.slice av A.length cv).ownBlock = some k → base ≤ k ∧ k < X.heap.size := fun k hk => HX.out.2.2.lt k hk
  have hrowW : ∀ k, (Value.slice av A.length cv).ownBlock = some k → k < W.heap.size := fun k hk => (HO.out.lt k hk).2
  have hH4 : SCmds base W.heap.size e W w2 := ⟨(hg2.out.block _ (by have := (Array.getElem?_eq_some_iff.1 (And.left hH3)).1; exact this) (fun hq => by have := hrowW _ hq.symm; omega)).trans (And.left hH3), Below.grown (And.right hH3) hg2.out (Nat.le_trans hb (And.right hH3).size) (fun k hk => (hrow k hk).1)⟩
  refine hK.out _ _ hH4 (fun hHeld9 => ?_)
  clear hK K hHeld9
  (try simp only [Act.put, List.setIfInBounds_toArray, List.set_cons_zero, List.set_cons_succ])
  refine wpAnyH_take (i := 7) (oi := Oper.mk (some 0) _ _ _ _ _) (v := ?_) rfl (by kernel_rfl) (by kernel_rfl) (by kernel_rfl) (fun _ _ _ h => h) (Or.inl ⟨by rfl, ?_⟩) (by assumption) ?_
  rotate_left
  · intro w0 hSw
    clear hSw
    go_simp
    all_goals (with_reducible rfl)
  simp only [Act.put, List.setIfInBounds_toArray, List.set_cons_zero, List.set_cons_succ]
  refine wpAnyH_done (by kernel_rfl) ?_ _
  refine NoPanic.normal ?_
  have HV2 := hv2
  have HB4 := hide (And.right hH4)
  obtain ⟨a2, c2, hav2⟩ := ownsRow_form hv2.out
  subst hav2
  clear hHeld hH3 hH4 hHY1 hHY2 hg2 hv2 HSX hrow hrowW hl2
  go_wp2_with fail
  go_ret2
  exact ⟨_, rfl, HV2.out, HB4.out⟩
set_option maxRecDepth 100000 in
set_option maxHeartbeats 1600000 in
theorem passCmds (e : Ev) (hk : ¬ e.k = 3) (all : Value) (gk gp : Nat) (W : World) (hgk : gk < W.heap.size) (ck : W.cell? ⟨gk, 0, none⟩ = some (.int .i64 3)) :
    Calls Try.prog 66 #[all, evV e, .pointer (some ⟨gk, 0, none⟩), .pointer (some ⟨gp, 0, none⟩)] W fun x w' => x = .returned (.tuple #[all, .bool true]) ∧ Below W.heap.size W w' := by
  have q1 : (e.k == 3) = false := by simp [hk]
  clear hk
  go_enter Try.func66, Try.ntmps66
  go_wp2_with fail
  go_ret2
  exact ⟨rfl, (Below.refl _ _).alloc (Nat.le_refl _) _⟩
end Go.Proofs.Ytobeecopkfgplaa

/- What was asked for, or what came, gathered by the program: one event. -/
namespace Go.Proofs.Ytobeecopkfgplaa
open Go.RowKit
set_option linter.unusedVariables false
set_option linter.unusedSimpArgs false
set_option maxRecDepth 100000 in
set_option maxHeartbeats 1600000 in
theorem partCame_any (e : Ev) (w : World) :
    Calls Try.prog 49 #[evV e] w fun x w' => x = .returned (.agg #[.int .i64 e.ct, .int .i64 e.mp, .string e.mn, .bool e.mo, .int .i64 e.wk, .int .i64 e.wn, .string e.wt]) ∧ Below w.heap.size w w' := by
  go_enter Try.func49, Try.ntmps49
  go_wp2
  refine bodyPost_ret (v := .agg #[.int .i64 e.ct, .int .i64 e.mp, .string e.mn, .bool e.mo, .int .i64 e.wk, .int .i64 e.wn, .string e.wt]) (by simp [results, Try.results49, go_sem]) rfl ⟨rfl, ((Below.refl _ _).alloc (Nat.le_refl _) _).alloc (by simp) _⟩
theorem st_app_came {ops : Array Oper} {o : Oper} {a : Act} {W : World} {K : Act → World → Prop} {Q : Exit → Act → World → Prop} {E : Prop} (hg : o.guard = none) (s x : Operand)
    (hop : o.op = Op.call { callee := Callee.builtin Builtin.append, args := #[s, x], argTypes := #[35, 35] }) (hty : o.type = 35) (base : Nat) (A : List Ev) (e : Ev) (v : Value) (ad : Addr) (c : Nat) (hs : a.eval s = v) (hx : a.eval x = .slice (some ad) 1 c)
    (hv : W.ownsRow base 53 7 v A.length (A.flatMap caL)) (hu : ∀ j u, (caL e)[j]? = some u → W.cell? (ad.add j) = some u) (hn : A.length + 1 ≤ 4194304) (hb : base ≤ W.heap.size)
    (hK : ∀ v' w2, Hid (w2.ownsRow base 53 7 v' (A ++ [e]).length ((A ++ [e]).flatMap caL)) → Hid (W.grownBy w2 v.ownBlock) → K (a.put o.dst v') w2) :
    if Region.wanted o (yielded ops a.tmps) = true then Oper.wp Try.prog o a W K Q else E := by
  rw [if_pos (by simp [Region.wanted, hg])]
  obtain ⟨v', w2, hrun, h1, h2⟩ := app_came e hv ad c hu hn hb
  unfold Oper.wp
  simp [execOp, hop, resolve, invoke, builtin, hs, hx, hty, hrun, Result.andThen]
  exact hK _ _ h1 h2
abbrev partCameV : Value := .func (.func 49) #[] #[]
def SCame (base b : Nat) (e : Ev) (W Y : World) : Prop := Y.heap[b]? = some (.cells (evL e).toArray 55 (0, 0)) ∧ Below base W Y
set_option maxRecDepth 100000 in
set_option maxHeartbeats 3200000 in
theorem gatherCame (e : Ev) (hsm : e.Small) (hk : e.k = 4) (A : List Ev) (hA : A.length ≤ 1048576) (all : Value) (base gk gp : Nat) (W : World) (ho : W.ownsRow base 53 7 all A.length (A.flatMap caL)) (hb : base ≤ W.heap.size)
    (hgk : gk < base) (hgp : gp < base) (ck : W.cell? ⟨gk, 0, none⟩ = some (.int .i64 4)) (cp : W.cell? ⟨gp, 0, none⟩ = some partCameV) :
    Calls Try.prog 69 #[all, evV e, .pointer (some ⟨gk, 0, none⟩), .pointer (some ⟨gp, 0, none⟩)] W fun x w' => ∃ v', x = .returned (.tuple #[v', .bool true]) ∧ w'.ownsRow base 53 7 v' (A ++ [e]).length ((A ++ [e]).flatMap caL) ∧ Below base W w' := by
  obtain ⟨av, cv, hav⟩ := ownsRow_form ho
  subst hav
  have HO := hide ho
  have how := hide (ownEvent_any e hsm)
  have hpa := hide (partCame_any e)
  have HCP := hide cp
  have q1 : (e.k == 4) = true := by simp [hk]
  clear ho hsm hk
  have hgkW : gk < W.heap.size := by omega
  have hgpW : gp < W.heap.size := by omega
  go_enter Try.func69, Try.ntmps69
  go_wp2_with fail
  refine gen_code (fun X => Hid (X.heap[W.heap.size]? = some (.cells (evL e).toArray 55 (0, 0)) ∧ Below base W X ∧ X.ownsRow base 53 7 (.slice av A.length cv) A.length (A.flatMap caL))) ⟨top1 _ _, (Below.refl _ _).alloc hb _, ownsRow_later HO.out ((Below.refl _ _).alloc (Nat.le_refl _) _)⟩ ?_
  intro X HX
  have HSX : SCame base W.heap.size e W X.drew := ⟨HX.out.1, below_drew' HX.out.2.1⟩
  refine wp_region_noPanic ?_
  refine wp_region_held_drew (S := SCame base W.heap.size e W) (by kernel_rfl) HSX (fun hHeld => ?_)
  refine wpAnyH_take (i := 0) (oi := Oper.mk (some 12) _ _ _ _ _) (v := ?_) rfl (by kernel_rfl) (by kernel_rfl) (by kernel_rfl) (fun _ _ _ h => h) (Or.inl ⟨by rfl, ?_⟩) (by assumption) ?_
  rotate_left
  · intro w0 hSw
    clear hSw
    go_simp
    all_goals (with_reducible rfl)
  simp only [Act.put, List.setIfInBounds_toArray, List.set_cons_zero, List.set_cons_succ]
  refine wpAnyH_take (i := 1) (oi := Oper.mk (some 13) _ _ _ _ _) (v := ?_) rfl (by kernel_rfl) (by kernel_rfl) (by kernel_rfl) (fun _ _ _ h => h) (Or.inl ⟨by rfl, ?_⟩) (by assumption) ?_
  rotate_left
  · intro w0 hSw
    have z : w0.cell? ⟨gp, 0, none⟩ = some partCameV := (Below.cell hSw.2 (p := ⟨gp, 0, none⟩) hgp).trans HCP.out
    clear hSw
    go_simp
    all_goals (with_reducible rfl)
  simp only [Act.put, List.setIfInBounds_toArray, List.set_cons_zero, List.set_cons_succ]
  refine wpAnyH_take (i := 2) (oi := Oper.mk (some 14) _ _ _ _ _) (v := evV e) rfl (by kernel_rfl) (by kernel_rfl) (by kernel_rfl) (fun _ _ _ h => h) (yle (by rfl) (.tmp 5) rfl W.heap.size rfl (evL e).toArray (fun _ h => h.1) (evL_ok e)) (by assumption) ?_
  simp only [Act.put, List.setIfInBounds_toArray, List.set_cons_zero, List.set_cons_succ]
  have HO0 : Hid (X.drew.ownsRow base 53 7 (.slice av A.length cv) A.length (A.flatMap caL)) := HX.out.2.2
  refine wpAnyH_ready (rs := [3]) (by kernel_rfl) (by simp) ?_
  refine AllReadyH.cons (o := Oper.mk (some 15) _ _ _ _ none) rfl (fun K hK => ?_) AllReadyH.nil
  go_simp
  go_at_call 67
  refine (how.out _).mono ?_
  rintro x0 Y1 ⟨rfl, hB0⟩
  have hHY1 : SCame base W.heap.size e W Y1 := ⟨(hB0.block _ (Array.getElem?_eq_some_iff.1 (And.left HSX)).1).trans (And.left HSX), Below.trans (And.right HSX) (hB0.mono (Nat.le_trans hb (And.right HSX).size))⟩
  have HOY1 := hide (ownsRow_later HO0.out hB0)
  clear hB0
  go_wp2_with fail
  refine hK.out _ _ hHY1 (fun hHeld9 => ?_)
  clear hK K hHeld9
  (try simp only [Act.put, List.setIfInBounds_toArray, List.set_cons_zero, List.set_cons_succ])
  refine wpAnyH_ready (rs := [4]) (by kernel_rfl) (by simp) ?_
  refine AllReadyH.cons (o := Oper.mk (some 16) _ _ _ _ none) rfl (fun K hK => ?_) AllReadyH.nil
  go_simp
  go_at_call 49
  refine (hpa.out _).mono ?_
  rintro x0 Y2 ⟨rfl, hB0⟩
  have hHY2 : SCame base W.heap.size e W Y2 := ⟨(hB0.block _ (Array.getElem?_eq_some_iff.1 (And.left hHY1)).1).trans (And.left hHY1), Below.trans (And.right hHY1) (hB0.mono (Nat.le_trans hb (And.right hHY1).size))⟩
  have HOY2 := hide (ownsRow_later HOY1.out hB0)
  clear hB0
  go_wp2_with fail
  refine hK.out _ _ hHY2 (fun hHeld9 => ?_)
  clear hK K hHeld9
  (try simp only [Act.put, List.setIfInBounds_toArray, List.set_cons_zero, List.set_cons_succ])
  refine wpAnyH_ready (rs := [5]) (by kernel_rfl) (by simp) ?_
  refine AllReadyH.cons (o := Oper.mk (some 17) _ _ _ _ none) rfl (fun K hK => ?_) AllReadyH.nil
  go_simp
  have hl2 := (Array.getElem?_eq_some_iff.1 (And.left hHY2)).1
  have hH3 : SCame base W.heap.size e W (Y2.alloc (.cells (caL e).toArray 53)) := ⟨alloc_keeps (And.left hHY2), Below.alloc (And.right hHY2) (Nat.le_trans hb (And.right hHY2).size) _⟩
  refine hK.out _ _ hH3 (fun hHeld9 => ?_)
  clear hK K hHeld9
  (try simp only [Act.put, List.setIfInBounds_toArray, List.set_cons_zero, List.set_cons_succ])
  have HO3 := hide (ownsRow_later HOY2.out ((Below.refl _ _).alloc (Nat.le_refl _) (.cells (caL e).toArray 53)))
  refine wpAnyH_ready (rs := [6]) (by kernel_rfl) (by simp) ?_
  refine AllReadyH.cons (o := Oper.mk (some 18) (Op.call (Call.mk (Callee.builtin Builtin.append) #[Operand.tmp 12, Operand.tmp 17] #[35, 35])) 35 _ _ none) rfl (fun K hK => ?_) AllReadyH.nil
  refine st_app_came rfl (.tmp 12) (.tmp 17) rfl rfl base A e _ ⟨Y2.heap.size, 0, none⟩ 1 rfl rfl HO3.out (cells_top _ _ _) (by omega) (Nat.le_trans (Nat.le_trans hb (And.right hHY2).size) (alloc_le (Nat.le_refl _))) ?_
  intro v2 w2 hv2 hg2
  have hrow : ∀ k, (Value.slice av A.length cv).ownBlock = some k → base ≤ k ∧ k < X.heap.size := fun k hk => HX.out.2.2.lt k hk
  have hrowW : ∀ k, (Value.slice av A.length cv).ownBlock = some k → k < W.heap.size := fun k hk => (HO.out.lt k hk).2
  have hH4 : SCame base W.heap.size e W w2 := ⟨(hg2.out.block _ (by have := (Array.getElem?_eq_some_iff.1 (And.left hH3)).1; exact this) (fun hq => by have := hrowW _ hq.symm; omega)).trans (And.left hH3), Below.grown (And.right hH3) hg2.out (Nat.le_trans hb (And.right hH3).size) (fun k hk => (hrow k hk).1)⟩
  refine hK.out _ _ hH4 (fun hHeld9 => ?_)
  clear hK K hHeld9
  (try simp only [Act.put, List.setIfInBounds_toArray, List.set_cons_zero, List.set_cons_succ])
  refine wpAnyH_take (i := 7) (oi := Oper.mk (some 0) _ _ _ _ _) (v := ?_) rfl (by kernel_rfl) (by kernel_rfl) (by kernel_rfl) (fun _ _ _ h => h) (Or.inl ⟨by rfl, ?_⟩) (by assumption) ?_
  rotate_left
  · intro w0 hSw
    clear hSw
    go_simp
    all_goals (with_reducible rfl)
  simp only [Act.put, List.setIfInBounds_toArray, List.set_cons_zero, List.set_cons_succ]
  refine wpAnyH_done (by kernel_rfl) ?_ _
  refine NoPanic.normal ?_
  have HV2 := hv2
  have HB4 := hide (And.right hH4)
  obtain ⟨a2, c2, hav2⟩ := ownsRow_form hv2.out
  subst hav2
  clear hHeld hH3 hH4 hHY1 hHY2 hg2 hv2 HSX hrow hrowW hl2
  go_wp2_with fail
  go_ret2
  exact ⟨_, rfl, HV2.out, HB4.out⟩
set_option maxRecDepth 100000 in
set_option maxHeartbeats 1600000 in
theorem passCame (e : Ev) (hk : ¬ e.k = 4) (all : Value) (gk gp : Nat) (W : World) (hgk : gk < W.heap.size) (ck : W.cell? ⟨gk, 0, none⟩ = some (.int .i64 4)) :
    Calls Try.prog 69 #[all, evV e, .pointer (some ⟨gk, 0, none⟩), .pointer (some ⟨gp, 0, none⟩)] W fun x w' => x = .returned (.tuple #[all, .bool true]) ∧ Below W.heap.size W w' := by
  have q1 : (e.k == 4) = false := by simp [hk]
  clear hk
  go_enter Try.func69, Try.ntmps69
  go_wp2_with fail
  go_ret2
  exact ⟨rfl, (Below.refl _ _).alloc (Nat.le_refl _) _⟩
end Go.Proofs.Ytobeecopkfgplaa

/- What the program knows of a history, and what it tells of it. -/
namespace Go.Proofs.Ytobeecopkfgplaa
open Go.RowKit
set_option linter.unusedVariables false
set_option linter.unusedSimpArgs false
theorem built_past : Try.prog.built 61 [] = some (pastC Pl.Past.none) := by kernel_rfl
set_option maxRecDepth 100000 in
theorem wb61 {ops : Array Oper} {rest : List Oper} {o : Oper} {a : Act} {W : World} {Q : Exit → Act → World → Prop} (hgd : o.guard = none) (ho : o.op = .build 61 #[])
    (h : wpList Try.prog ops Q rest (a.put o.dst (.agg (pastC Pl.Past.none))) W) : wpList Try.prog ops Q (o :: rest) a W := by
  have hb : Try.prog.built 61 ((#[] : Array (Nat × Operand)).map fun (i, x) => (i, a.eval x)).toList = some (pastC Pl.Past.none) := by
    simp only [List.map_toArray, List.map_nil]
    exact built_past
  refine wpList_build hgd 61 #[] ho (by rw [hb]; rfl) ?_
  rw [hb]
  exact h
theorem inv_none : Inv 0 Pl.Past.none := ⟨by simp [Pl.Past.none], ⟨by simp [Pl.Past.none], by simp [Pl.Past.none]⟩, ⟨by simp [Pl.Past.none], by simp [Pl.Past.none]⟩, ⟨by simp [Pl.Past.none], by simp [Pl.Past.none]⟩, by simp [Pl.Past.none], by simp [Pl.Past.none], by simp [Pl.Past.none]⟩
theorem walk_size (l : List Ev) : ∀ (h : Pl.Past), h.opn.length = 40 → (Pl.walkP Pl.evB h l).1.opn.length = 40 := by
  induction l with
  | nil => intro h hz; exact hz
  | cons e r ih =>
    intro h hz
    have hz' : (Pl.pwith Pl.evB h e).1.opn.length = 40 := by
      unfold Pl.pwith
      split
      · exact hz
      · split
        · exact hz
        · split
          · simp [Pl.withCmd, hz]
          · split
            · unfold Pl.withCame; split <;> simp [hz]
            · exact hz
    unfold Pl.walkP
    split
    · exact ih _ hz'
    · exact hz'
theorem wk_x0 {w X1 : World} {o : Obj} (hB1 : Below (w.alloc o).heap.size (w.alloc o) X1) : X1.heap[w.heap.size]? = some o := by
  have h := top1 w o
  exact (hB1.block _ (Array.getElem?_eq_some_iff.1 h).1).trans h
set_option maxRecDepth 100000 in
set_option maxHeartbeats 3200000 in
theorem pastOf_any (l : List Ev) (hwf : ∀ e ∈ l, e.Wf) (hN : l.length ≤ 1048576) (v : Value) (w : World) (hr : EvRow w l v) :
    Calls Try.prog 37 #[v] w fun x w' => x = .returned (.tuple #[pastV (Pl.pastB Pl.evB l).1, .bool (Pl.pastB Pl.evB l).2]) ∧ Below w.heap.size w w' := by
  have HRW := hide hr
  obtain ⟨ad, cap, rfl, hc, hmx, hx⟩ := hr
  unfold maxLen at hmx
  clear hx
  unfold pastV
  by_cases hl : 200 < l.length
  · have HE : Hid (Pl.pastB Pl.evB l = (Pl.Past.none, false)) := by show _ = _; unfold Pl.pastB; rw [if_pos hl]
    rw [HE.out]
    have hnk := hide (pastC_ok Pl.Past.none (by simp [Pl.Past.none]))
    have hl' : (200 : Int) < (l.length : Int) := by omega
    clear HE hl
    go_enter Try.func37, Try.ntmps37
    go_wp2_with (first
      | (with_reducible show wpList _ _ _ (Oper.mk _ (Op.build 61 _) _ _ _ _ :: _) _ _; refine wb61 rfl rfl ?_)
      | (with_reducible show wpList _ _ _ (Oper.mk _ (Op.store 61 _ _) _ _ _ _ :: _) _ _; refine ws61top rfl (.tmp 2) (.tmp 9) rfl rfl _ rfl rfl hnk.out ?_))
    refine bodyPost_ret (results_past Try.results37 _ _ w.heap.size _ rfl (top1 _ _) hnk.out) rfl ⟨rfl, (Below.refl _ _).alloc (Nat.le_refl _) _⟩
  · have HF : Hid (Pl.pastB Pl.evB l = ((Pl.walkP Pl.evB Pl.Past.none l).1, (Pl.walkP Pl.evB Pl.Past.none l).2 && (decide (0 < (Pl.walkP Pl.evB Pl.Past.none l).1.events) && ((Pl.walkP Pl.evB Pl.Past.none l).1.due == 0)))) := by
      show _ = _; unfold Pl.pastB; rw [if_neg hl]
    have hwk := hide (fun W hW => walk_any l hwf Pl.Past.none 0 inv_none (by omega) (.slice ad l.length cap) W hW)
    unfold pastV at hwk
    have hz := walk_size l Pl.Past.none (by simp [Pl.Past.none])
    have hok := hide (pastC_ok _ hz)
    have c0 := pastC_0 (Pl.walkP Pl.evB Pl.Past.none l).1
    have c4 := pastC_4 (Pl.walkP Pl.evB Pl.Past.none l).1
    have hF1 : (Pl.pastB Pl.evB l).1 = (Pl.walkP Pl.evB Pl.Past.none l).1 := by rw [HF.out]
    have hF2 : (Pl.pastB Pl.evB l).2 = ((Pl.walkP Pl.evB Pl.Past.none l).2 && (decide (0 < (Pl.walkP Pl.evB Pl.Past.none l).1.events) && ((Pl.walkP Pl.evB Pl.Past.none l).1.due == 0))) := by rw [HF.out]
    rw [hF1]
    clear HF hF1 hz
    have HF := hide hF2
    clear hF2
    generalize (Pl.pastB Pl.evB l).2 = rb at *
    generalize (Pl.walkP Pl.evB Pl.Past.none l).1 = hh at *
    generalize (Pl.walkP Pl.evB Pl.Past.none l).2 = okb at *
    generalize pastC hh = C at *
    generalize hh.events = ev at *
    generalize hh.due = du at *
    have hl' : ¬ (200 : Int) < (l.length : Int) := by omega
    clear hl hwf
    go_enter Try.func37, Try.ntmps37
    go_wp2_with (first
      | (with_reducible show wpList _ _ _ (Oper.mk _ (Op.build 61 _) _ _ _ _ :: _) _ _; refine wb61 rfl rfl ?_)
      | fail)
    refine (hwk.out _ (HRW.out.later ((Below.refl _ _).alloc (Nat.le_refl _) _))).mono ?_
    rintro x1 X1 ⟨rfl, hB1⟩
    have hZ0 := wk_x0 hB1
    have hB0 := below_box1 hB1
    obtain ⟨Z, hZ0, hZ⟩ : ∃ Z, X1.heap[w.heap.size]? = some (.cells Z 61 (0, 0)) ∧ Z.size = 47 := ⟨_, hZ0, rfl⟩
    have HZ0 := hide hZ0
    have HZ := hide hZ
    have HB0 := hide hB0
    have hlt : w.heap.size < X1.heap.size := (Array.getElem?_eq_some_iff.1 hZ0).1
    have HLT := hide hlt
    clear hB1 hwk hZ0 hB0 hZ hlt
    go_wp2_with (first
      | (with_reducible show wpList _ _ _ (Oper.mk _ (Op.store 61 (.tmp 4) _) _ _ _ _ :: _) _ _; refine ws61top rfl (.tmp 4) (.tmp 14) rfl rfl _ rfl rfl hok.out ?_)
      | fail)
    refine gen_code (fun X => X.heap[X1.heap.size]? = some (.cells C 61 (0, 0)) ∧ X.heap[w.heap.size]? = some (.cells Z 61 (0, 0)) ∧ Below w.heap.size w X) ⟨top1 _ _, alloc_keeps HZ0.out, HB0.out.alloc (by have := HLT.out; omega) _⟩ ?_
    rintro X ⟨hX4, hX0, hXB⟩
    have hX0d : X.drew.heap[w.heap.size]? = some (.cells Z 61 (0, 0)) := hX0
    have x0 := (cell_of_block hX4 0).trans c0
    have x4 := (cell_of_block hX4 4).trans c4
    have hZ := HZ.out
    have hlt := HLT.out
    cases okb
    · refine wp_region_noPanic ?_
      refine wp_region_held_drew (S := (fun W => W.heap[X1.heap.size]? = some (.cells C 61 (0, 0)) ∧ W.cell? ⟨X1.heap.size, 0, none⟩ = some (.int .i64 ev) ∧ W.cell? ⟨X1.heap.size, 4, none⟩ = some (.int .i64 du))) (by kernel_rfl) ⟨hX4, x0, x4⟩ (fun hHeld => ?_)
      refine wpAnyH_take (i := 0) (oi := Oper.mk (some 16) _ _ _ _ _) (v := .agg C) rfl (by kernel_rfl) (by kernel_rfl) (by kernel_rfl) (fun _ _ _ h => h) (yl61 (by rfl) (.tmp 4) rfl X1.heap.size rfl C (fun _ h => h.1) hok.out) (by assumption) ?_
      simp only [Act.put, List.setIfInBounds_toArray, List.set_cons_zero, List.set_cons_succ]
      refine wpAnyH_take (i := 1) (oi := Oper.mk (some 17) _ _ _ _ _) (v := ?_) rfl (by kernel_rfl) (by kernel_rfl) (by kernel_rfl) (fun _ _ _ h => h) (Or.inl ⟨by rfl, ?_⟩) (by assumption) ?_
      rotate_left
      · intro w hSw
        obtain ⟨hs0, hs1, hs2⟩ := hSw
        clear hs0
        go_simp
        all_goals (with_reducible rfl)
      simp only [Act.put, List.setIfInBounds_toArray, List.set_cons_zero, List.set_cons_succ]
      refine wpAnyH_take (i := 2) (oi := Oper.mk (some 18) _ _ _ _ _) (v := ?_) rfl (by kernel_rfl) (by kernel_rfl) (by kernel_rfl) (fun _ _ _ h => h) (Or.inl ⟨by rfl, ?_⟩) (by assumption) ?_
      rotate_left
      · intro w hSw
        obtain ⟨hs0, hs1, hs2⟩ := hSw
        clear hs0
        go_simp
        all_goals (with_reducible rfl)
      simp only [Act.put, List.setIfInBounds_toArray, List.set_cons_zero, List.set_cons_succ]
      refine wpAnyH_take (i := 3) (oi := Oper.mk (some 19) _ _ _ _ _) (v := undef) rfl (by kernel_rfl) (by kernel_rfl) (by kernel_rfl) (fun _ _ _ h => h) (Or.inr ⟨by rfl, rfl⟩) (by assumption) ?_
      simp only [Act.put, List.setIfInBounds_toArray, List.set_cons_zero, List.set_cons_succ]
      refine wpAnyH_take (i := 4) (oi := Oper.mk (some 20) _ _ _ _ _) (v := undef) rfl (by kernel_rfl) (by kernel_rfl) (by kernel_rfl) (fun _ _ _ h => h) (Or.inr ⟨by rfl, rfl⟩) (by assumption) ?_
      simp only [Act.put, List.setIfInBounds_toArray, List.set_cons_zero, List.set_cons_succ]
      refine wpAnyH_take (i := 5) (oi := Oper.mk (some 21) _ _ _ _ _) (v := undef) rfl (by kernel_rfl) (by kernel_rfl) (by kernel_rfl) (fun _ _ _ h => h) (Or.inr ⟨by rfl, rfl⟩) (by assumption) ?_
      simp only [Act.put, List.setIfInBounds_toArray, List.set_cons_zero, List.set_cons_succ]
      refine wpAnyH_take (i := 6) (oi := Oper.mk (some 22) _ _ _ _ _) (v := ?_) rfl (by kernel_rfl) (by kernel_rfl) (by kernel_rfl) (fun _ _ _ h => h) (Or.inl ⟨by rfl, ?_⟩) (by assumption) ?_
      rotate_left
      · intro w hSw
        obtain ⟨hs0, hs1, hs2⟩ := hSw
        clear hs0
        go_simp
        all_goals (with_reducible rfl)
      simp only [Act.put, List.setIfInBounds_toArray, List.set_cons_zero, List.set_cons_succ]
      refine wpAnyH_take (i := 7) (oi := Oper.mk (some 23) _ _ _ _ _) (v := ?_) rfl (by kernel_rfl) (by kernel_rfl) (by kernel_rfl) (fun _ _ _ h => h) (Or.inl ⟨by rfl, ?_⟩) (by assumption) ?_
      rotate_left
      · intro w hSw
        obtain ⟨hs0, hs1, hs2⟩ := hSw
        clear hs0
        go_simp
        all_goals (with_reducible rfl)
      simp only [Act.put, List.setIfInBounds_toArray, List.set_cons_zero, List.set_cons_succ]
      refine wpAnyH_take (i := 8) (oi := Oper.mk (some 24) _ _ _ _ _) (v := undef) rfl (by kernel_rfl) (by kernel_rfl) (by kernel_rfl) (fun _ _ _ h => h) (Or.inr ⟨by rfl, rfl⟩) (by assumption) ?_
      simp only [Act.put, List.setIfInBounds_toArray, List.set_cons_zero, List.set_cons_succ]
      refine wpAnyH_take (i := 9) (oi := Oper.mk (some 25) _ _ _ _ _) (v := undef) rfl (by kernel_rfl) (by kernel_rfl) (by kernel_rfl) (fun _ _ _ h => h) (Or.inr ⟨by rfl, rfl⟩) (by assumption) ?_
      simp only [Act.put, List.setIfInBounds_toArray, List.set_cons_zero, List.set_cons_succ]
      refine wpAnyH_take (i := 10) (oi := Oper.mk (some 26) _ _ _ _ _) (v := undef) rfl (by kernel_rfl) (by kernel_rfl) (by kernel_rfl) (fun _ _ _ h => h) (Or.inr ⟨by rfl, rfl⟩) (by assumption) ?_
      simp only [Act.put, List.setIfInBounds_toArray, List.set_cons_zero, List.set_cons_succ]
      refine wpAnyH_take (i := 11) (oi := Oper.mk (some 27) _ _ _ _ _) (v := ?_) rfl (by kernel_rfl) (by kernel_rfl) (by kernel_rfl) (fun _ _ _ h => h) (Or.inl ⟨by rfl, ?_⟩) (by assumption) ?_
      rotate_left
      · intro w hSw
        obtain ⟨hs0, hs1, hs2⟩ := hSw
        clear hs0
        go_simp
        all_goals (with_reducible rfl)
      simp only [Act.put, List.setIfInBounds_toArray, List.set_cons_zero, List.set_cons_succ]
      refine wpAnyH_ready (rs := [12]) (by kernel_rfl) (by simp) ?_
      refine AllReadyH.cons (o := Oper.mk none (Op.store 61 (.tmp 2) (.tmp 16)) _ _ _ none) rfl (fun K hK => ?_) AllReadyH.nil
      refine st61s rfl (.tmp 2) (.tmp 16) rfl w.heap.size rfl C rfl Z hX0d hZ hok.out ?_
      intro W9 hW9
      refine hK.out _ _ ?_ (fun hHeld9 => ?_)
      · (rw [hW9.out]; exact ⟨(setRow_other _ _ _ _ (by omega)).trans hX4, (cell_of_block ((setRow_other _ _ _ _ (by omega)).trans hX4) 0).trans c0, (cell_of_block ((setRow_other _ _ _ _ (by omega)).trans hX4) 4).trans c4⟩)
      clear hK K
      (try simp only [Act.put, List.setIfInBounds_toArray, List.set_cons_zero, List.set_cons_succ])
      refine wpAnyH_take (i := 13) (oi := Oper.mk (some 3) _ _ _ _ _) (v := ?_) rfl (by kernel_rfl) (by kernel_rfl) (by kernel_rfl) (fun _ _ _ h => h) (Or.inl ⟨by rfl, ?_⟩) (by assumption) ?_
      rotate_left
      · intro w hSw
        obtain ⟨hs0, hs1, hs2⟩ := hSw
        clear hs0
        go_simp
        all_goals (with_reducible rfl)
      simp only [Act.put, List.setIfInBounds_toArray, List.set_cons_zero, List.set_cons_succ]
      refine wpAnyH_done (by kernel_rfl) ?_ _
      refine NoPanic.normal ?_
      go_wp2_with fail
      refine bodyPost_ret (results_past Try.results37 _ W9 w.heap.size C rfl (by rw [hW9.out]; exact setRow_heap _ _ _ _ _ _ hX0) hok.out) rfl ⟨?_, ?_⟩
      · rw [HF.out]; first | rfl | simp [*]
      · rw [hW9.out]; exact below_setRow (below_drew' hXB) (by omega) _
    · by_cases hev : 0 < ev
      · have hevb : decide (0 < ev) = true := decide_eq_true hev
        refine wp_region_noPanic ?_
        refine wp_region_held_drew (S := (fun W => W.heap[X1.heap.size]? = some (.cells C 61 (0, 0)) ∧ W.cell? ⟨X1.heap.size, 0, none⟩ = some (.int .i64 ev) ∧ W.cell? ⟨X1.heap.size, 4, none⟩ = some (.int .i64 du))) (by kernel_rfl) ⟨hX4, x0, x4⟩ (fun hHeld => ?_)
        refine wpAnyH_take (i := 0) (oi := Oper.mk (some 16) _ _ _ _ _) (v := .agg C) rfl (by kernel_rfl) (by kernel_rfl) (by kernel_rfl) (fun _ _ _ h => h) (yl61 (by rfl) (.tmp 4) rfl X1.heap.size rfl C (fun _ h => h.1) hok.out) (by assumption) ?_
        simp only [Act.put, List.setIfInBounds_toArray, List.set_cons_zero, List.set_cons_succ]
        refine wpAnyH_take (i := 1) (oi := Oper.mk (some 17) _ _ _ _ _) (v := ?_) rfl (by kernel_rfl) (by kernel_rfl) (by kernel_rfl) (fun _ _ _ h => h) (Or.inl ⟨by rfl, ?_⟩) (by assumption) ?_
        rotate_left
        · intro w hSw
          obtain ⟨hs0, hs1, hs2⟩ := hSw
          clear hs0
          go_simp
          all_goals (with_reducible rfl)
        simp only [Act.put, List.setIfInBounds_toArray, List.set_cons_zero, List.set_cons_succ]
        refine wpAnyH_take (i := 2) (oi := Oper.mk (some 18) _ _ _ _ _) (v := ?_) rfl (by kernel_rfl) (by kernel_rfl) (by kernel_rfl) (fun _ _ _ h => h) (Or.inl ⟨by rfl, ?_⟩) (by assumption) ?_
        rotate_left
        · intro w hSw
          obtain ⟨hs0, hs1, hs2⟩ := hSw
          clear hs0
          go_simp
          all_goals (with_reducible rfl)
        simp only [Act.put, List.setIfInBounds_toArray, List.set_cons_zero, List.set_cons_succ]
        refine wpAnyH_take (i := 3) (oi := Oper.mk (some 19) _ _ _ _ _) (v := ?_) rfl (by kernel_rfl) (by kernel_rfl) (by kernel_rfl) (fun _ _ _ h => h) (Or.inl ⟨by rfl, ?_⟩) (by assumption) ?_
        rotate_left
        · intro w hSw
          obtain ⟨hs0, hs1, hs2⟩ := hSw
          clear hs0
          go_simp
          all_goals (with_reducible rfl)
        simp only [Act.put, List.setIfInBounds_toArray, List.set_cons_zero, List.set_cons_succ]
        refine wpAnyH_take (i := 4) (oi := Oper.mk (some 20) _ _ _ _ _) (v := ?_) rfl (by kernel_rfl) (by kernel_rfl) (by kernel_rfl) (fun _ _ _ h => h) (Or.inl ⟨by rfl, ?_⟩) (by assumption) ?_
        rotate_left
        · intro w hSw
          obtain ⟨hs0, hs1, hs2⟩ := hSw
          clear hs0
          go_simp
          all_goals (with_reducible rfl)
        simp only [Act.put, List.setIfInBounds_toArray, List.set_cons_zero, List.set_cons_succ]
        refine wpAnyH_take (i := 5) (oi := Oper.mk (some 21) _ _ _ _ _) (v := ?_) rfl (by kernel_rfl) (by kernel_rfl) (by kernel_rfl) (fun _ _ _ h => h) (Or.inl ⟨by rfl, ?_⟩) (by assumption) ?_
        rotate_left
        · intro w hSw
          obtain ⟨hs0, hs1, hs2⟩ := hSw
          clear hs0
          go_simp
          all_goals (with_reducible rfl)
        simp only [Act.put, List.setIfInBounds_toArray, List.set_cons_zero, List.set_cons_succ]
        refine wpAnyH_take (i := 6) (oi := Oper.mk (some 22) _ _ _ _ _) (v := ?_) rfl (by kernel_rfl) (by kernel_rfl) (by kernel_rfl) (fun _ _ _ h => h) (Or.inl ⟨by rfl, ?_⟩) (by assumption) ?_
        rotate_left
        · intro w hSw
          obtain ⟨hs0, hs1, hs2⟩ := hSw
          clear hs0
          go_simp
          all_goals (with_reducible rfl)
        simp only [Act.put, List.setIfInBounds_toArray, List.set_cons_zero, List.set_cons_succ]
        refine wpAnyH_take (i := 7) (oi := Oper.mk (some 23) _ _ _ _ _) (v := ?_) rfl (by kernel_rfl) (by kernel_rfl) (by kernel_rfl) (fun _ _ _ h => h) (Or.inl ⟨by rfl, ?_⟩) (by assumption) ?_
        rotate_left
        · intro w hSw
          obtain ⟨hs0, hs1, hs2⟩ := hSw
          clear hs0
          go_simp
          all_goals (with_reducible rfl)
        simp only [Act.put, List.setIfInBounds_toArray, List.set_cons_zero, List.set_cons_succ]
        refine wpAnyH_take (i := 8) (oi := Oper.mk (some 24) _ _ _ _ _) (v := ?_) rfl (by kernel_rfl) (by kernel_rfl) (by kernel_rfl) (fun _ _ _ h => h) (Or.inl ⟨by rfl, ?_⟩) (by assumption) ?_
        rotate_left
        · intro w hSw
          obtain ⟨hs0, hs1, hs2⟩ := hSw
          clear hs0
          go_simp
          all_goals (with_reducible rfl)
        simp only [Act.put, List.setIfInBounds_toArray, List.set_cons_zero, List.set_cons_succ]
        refine wpAnyH_take (i := 9) (oi := Oper.mk (some 25) _ _ _ _ _) (v := ?_) rfl (by kernel_rfl) (by kernel_rfl) (by kernel_rfl) (fun _ _ _ h => h) (Or.inl ⟨by rfl, ?_⟩) (by assumption) ?_
        rotate_left
        · intro w hSw
          obtain ⟨hs0, hs1, hs2⟩ := hSw
          clear hs0
          go_simp
          all_goals (with_reducible rfl)
        simp only [Act.put, List.setIfInBounds_toArray, List.set_cons_zero, List.set_cons_succ]
        refine wpAnyH_take (i := 10) (oi := Oper.mk (some 26) _ _ _ _ _) (v := ?_) rfl (by kernel_rfl) (by kernel_rfl) (by kernel_rfl) (fun _ _ _ h => h) (Or.inl ⟨by rfl, ?_⟩) (by assumption) ?_
        rotate_left
        · intro w hSw
          obtain ⟨hs0, hs1, hs2⟩ := hSw
          clear hs0
          go_simp
          all_goals (with_reducible rfl)
        simp only [Act.put, List.setIfInBounds_toArray, List.set_cons_zero, List.set_cons_succ]
        refine wpAnyH_take (i := 11) (oi := Oper.mk (some 27) _ _ _ _ _) (v := ?_) rfl (by kernel_rfl) (by kernel_rfl) (by kernel_rfl) (fun _ _ _ h => h) (Or.inl ⟨by rfl, ?_⟩) (by assumption) ?_
        rotate_left
        · intro w hSw
          obtain ⟨hs0, hs1, hs2⟩ := hSw
          clear hs0
          go_simp
          all_goals (with_reducible rfl)
        simp only [Act.put, List.setIfInBounds_toArray, List.set_cons_zero, List.set_cons_succ]
        refine wpAnyH_ready (rs := [12]) (by kernel_rfl) (by simp) ?_
        refine AllReadyH.cons (o := Oper.mk none (Op.store 61 (.tmp 2) (.tmp 16)) _ _ _ none) rfl (fun K hK => ?_) AllReadyH.nil
        refine st61s rfl (.tmp 2) (.tmp 16) rfl w.heap.size rfl C rfl Z hX0d hZ hok.out ?_
        intro W9 hW9
        refine hK.out _ _ ?_ (fun hHeld9 => ?_)
        · (rw [hW9.out]; exact ⟨(setRow_other _ _ _ _ (by omega)).trans hX4, (cell_of_block ((setRow_other _ _ _ _ (by omega)).trans hX4) 0).trans c0, (cell_of_block ((setRow_other _ _ _ _ (by omega)).trans hX4) 4).trans c4⟩)
        clear hK K
        (try simp only [Act.put, List.setIfInBounds_toArray, List.set_cons_zero, List.set_cons_succ])
        refine wpAnyH_take (i := 13) (oi := Oper.mk (some 3) _ _ _ _ _) (v := ?_) rfl (by kernel_rfl) (by kernel_rfl) (by kernel_rfl) (fun _ _ _ h => h) (Or.inl ⟨by rfl, ?_⟩) (by assumption) ?_
        rotate_left
        · intro w hSw
          obtain ⟨hs0, hs1, hs2⟩ := hSw
          clear hs0
          go_simp
          all_goals (with_reducible rfl)
        simp only [Act.put, List.setIfInBounds_toArray, List.set_cons_zero, List.set_cons_succ]
        refine wpAnyH_done (by kernel_rfl) ?_ _
        refine NoPanic.normal ?_
        go_wp2_with fail
        refine bodyPost_ret (results_past Try.results37 _ W9 w.heap.size C rfl (by rw [hW9.out]; exact setRow_heap _ _ _ _ _ _ hX0) hok.out) rfl ⟨?_, ?_⟩
        · rw [HF.out]; first | rfl | simp [*]
        · rw [hW9.out]; exact below_setRow (below_drew' hXB) (by omega) _
      · have hevb : decide (0 < ev) = false := decide_eq_false hev
        refine wp_region_noPanic ?_
        refine wp_region_held_drew (S := (fun W => W.heap[X1.heap.size]? = some (.cells C 61 (0, 0)) ∧ W.cell? ⟨X1.heap.size, 0, none⟩ = some (.int .i64 ev) ∧ W.cell? ⟨X1.heap.size, 4, none⟩ = some (.int .i64 du))) (by kernel_rfl) ⟨hX4, x0, x4⟩ (fun hHeld => ?_)
        refine wpAnyH_take (i := 0) (oi := Oper.mk (some 16) _ _ _ _ _) (v := .agg C) rfl (by kernel_rfl) (by kernel_rfl) (by kernel_rfl) (fun _ _ _ h => h) (yl61 (by rfl) (.tmp 4) rfl X1.heap.size rfl C (fun _ h => h.1) hok.out) (by assumption) ?_
        simp only [Act.put, List.setIfInBounds_toArray, List.set_cons_zero, List.set_cons_succ]
        refine wpAnyH_take (i := 1) (oi := Oper.mk (some 17) _ _ _ _ _) (v := ?_) rfl (by kernel_rfl) (by kernel_rfl) (by kernel_rfl) (fun _ _ _ h => h) (Or.inl ⟨by rfl, ?_⟩) (by assumption) ?_
        rotate_left
        · intro w hSw
          obtain ⟨hs0, hs1, hs2⟩ := hSw
          clear hs0
          go_simp
          all_goals (with_reducible rfl)
        simp only [Act.put, List.setIfInBounds_toArray, List.set_cons_zero, List.set_cons_succ]
        refine wpAnyH_take (i := 2) (oi := Oper.mk (some 18) _ _ _ _ _) (v := ?_) rfl (by kernel_rfl) (by kernel_rfl) (by kernel_rfl) (fun _ _ _ h => h) (Or.inl ⟨by rfl, ?_⟩) (by assumption) ?_
        rotate_left
        · intro w hSw
          obtain ⟨hs0, hs1, hs2⟩ := hSw
          clear hs0
          go_simp
          all_goals (with_reducible rfl)
        simp only [Act.put, List.setIfInBounds_toArray, List.set_cons_zero, List.set_cons_succ]
        refine wpAnyH_take (i := 3) (oi := Oper.mk (some 19) _ _ _ _ _) (v := ?_) rfl (by kernel_rfl) (by kernel_rfl) (by kernel_rfl) (fun _ _ _ h => h) (Or.inl ⟨by rfl, ?_⟩) (by assumption) ?_
        rotate_left
        · intro w hSw
          obtain ⟨hs0, hs1, hs2⟩ := hSw
          clear hs0
          go_simp
          all_goals (with_reducible rfl)
        simp only [Act.put, List.setIfInBounds_toArray, List.set_cons_zero, List.set_cons_succ]
        refine wpAnyH_take (i := 4) (oi := Oper.mk (some 20) _ _ _ _ _) (v := ?_) rfl (by kernel_rfl) (by kernel_rfl) (by kernel_rfl) (fun _ _ _ h => h) (Or.inl ⟨by rfl, ?_⟩) (by assumption) ?_
        rotate_left
        · intro w hSw
          obtain ⟨hs0, hs1, hs2⟩ := hSw
          clear hs0
          go_simp
          all_goals (with_reducible rfl)
        simp only [Act.put, List.setIfInBounds_toArray, List.set_cons_zero, List.set_cons_succ]
        refine wpAnyH_take (i := 5) (oi := Oper.mk (some 21) _ _ _ _ _) (v := ?_) rfl (by kernel_rfl) (by kernel_rfl) (by kernel_rfl) (fun _ _ _ h => h) (Or.inl ⟨by rfl, ?_⟩) (by assumption) ?_
        rotate_left
        · intro w hSw
          obtain ⟨hs0, hs1, hs2⟩ := hSw
          clear hs0
          go_simp
          all_goals (with_reducible rfl)
        simp only [Act.put, List.setIfInBounds_toArray, List.set_cons_zero, List.set_cons_succ]
        refine wpAnyH_take (i := 6) (oi := Oper.mk (some 22) _ _ _ _ _) (v := ?_) rfl (by kernel_rfl) (by kernel_rfl) (by kernel_rfl) (fun _ _ _ h => h) (Or.inl ⟨by rfl, ?_⟩) (by assumption) ?_
        rotate_left
        · intro w hSw
          obtain ⟨hs0, hs1, hs2⟩ := hSw
          clear hs0
          go_simp
          all_goals (with_reducible rfl)
        simp only [Act.put, List.setIfInBounds_toArray, List.set_cons_zero, List.set_cons_succ]
        refine wpAnyH_take (i := 7) (oi := Oper.mk (some 23) _ _ _ _ _) (v := ?_) rfl (by kernel_rfl) (by kernel_rfl) (by kernel_rfl) (fun _ _ _ h => h) (Or.inl ⟨by rfl, ?_⟩) (by assumption) ?_
        rotate_left
        · intro w hSw
          obtain ⟨hs0, hs1, hs2⟩ := hSw
          clear hs0
          go_simp
          all_goals (with_reducible rfl)
        simp only [Act.put, List.setIfInBounds_toArray, List.set_cons_zero, List.set_cons_succ]
        refine wpAnyH_take (i := 8) (oi := Oper.mk (some 24) _ _ _ _ _) (v := undef) rfl (by kernel_rfl) (by kernel_rfl) (by kernel_rfl) (fun _ _ _ h => h) (Or.inr ⟨by rfl, rfl⟩) (by assumption) ?_
        simp only [Act.put, List.setIfInBounds_toArray, List.set_cons_zero, List.set_cons_succ]
        refine wpAnyH_take (i := 9) (oi := Oper.mk (some 25) _ _ _ _ _) (v := undef) rfl (by kernel_rfl) (by kernel_rfl) (by kernel_rfl) (fun _ _ _ h => h) (Or.inr ⟨by rfl, rfl⟩) (by assumption) ?_
        simp only [Act.put, List.setIfInBounds_toArray, List.set_cons_zero, List.set_cons_succ]
        refine wpAnyH_take (i := 10) (oi := Oper.mk (some 26) _ _ _ _ _) (v := undef) rfl (by kernel_rfl) (by kernel_rfl) (by kernel_rfl) (fun _ _ _ h => h) (Or.inr ⟨by rfl, rfl⟩) (by assumption) ?_
        simp only [Act.put, List.setIfInBounds_toArray, List.set_cons_zero, List.set_cons_succ]
        refine wpAnyH_take (i := 11) (oi := Oper.mk (some 27) _ _ _ _ _) (v := ?_) rfl (by kernel_rfl) (by kernel_rfl) (by kernel_rfl) (fun _ _ _ h => h) (Or.inl ⟨by rfl, ?_⟩) (by assumption) ?_
        rotate_left
        · intro w hSw
          obtain ⟨hs0, hs1, hs2⟩ := hSw
          clear hs0
          go_simp
          all_goals (with_reducible rfl)
        simp only [Act.put, List.setIfInBounds_toArray, List.set_cons_zero, List.set_cons_succ]
        refine wpAnyH_ready (rs := [12]) (by kernel_rfl) (by simp) ?_
        refine AllReadyH.cons (o := Oper.mk none (Op.store 61 (.tmp 2) (.tmp 16)) _ _ _ none) rfl (fun K hK => ?_) AllReadyH.nil
        refine st61s rfl (.tmp 2) (.tmp 16) rfl w.heap.size rfl C rfl Z hX0d hZ hok.out ?_
        intro W9 hW9
        refine hK.out _ _ ?_ (fun hHeld9 => ?_)
        · (rw [hW9.out]; exact ⟨(setRow_other _ _ _ _ (by omega)).trans hX4, (cell_of_block ((setRow_other _ _ _ _ (by omega)).trans hX4) 0).trans c0, (cell_of_block ((setRow_other _ _ _ _ (by omega)).trans hX4) 4).trans c4⟩)
        clear hK K
        (try simp only [Act.put, List.setIfInBounds_toArray, List.set_cons_zero, List.set_cons_succ])
        refine wpAnyH_take (i := 13) (oi := Oper.mk (some 3) _ _ _ _ _) (v := ?_) rfl (by kernel_rfl) (by kernel_rfl) (by kernel_rfl) (fun _ _ _ h => h) (Or.inl ⟨by rfl, ?_⟩) (by assumption) ?_
        rotate_left
        · intro w hSw
          obtain ⟨hs0, hs1, hs2⟩ := hSw
          clear hs0
          go_simp
          all_goals (with_reducible rfl)
        simp only [Act.put, List.setIfInBounds_toArray, List.set_cons_zero, List.set_cons_succ]
        refine wpAnyH_done (by kernel_rfl) ?_ _
        refine NoPanic.normal ?_
        go_wp2_with fail
        refine bodyPost_ret (results_past Try.results37 _ W9 w.heap.size C rfl (by rw [hW9.out]; exact setRow_heap _ _ _ _ _ _ hX0) hok.out) rfl ⟨?_, ?_⟩
        · rw [HF.out]; first | rfl | simp [*]
        · rw [hW9.out]; exact below_setRow (below_drew' hXB) (by omega) _
end Go.Proofs.Ytobeecopkfgplaa

/- What the program tells of a history: whether it is one, goes on, has news, its tasks. -/
namespace Go.Proofs.Ytobeecopkfgplaa
open Go.RowKit
set_option linter.unusedVariables false
set_option linter.unusedSimpArgs false
theorem pastB_size (l : List Ev) : (Pl.pastB Pl.evB l).1.opn.length = 40 := by
  unfold Pl.pastB
  split
  · simp [Pl.Past.none]
  · exact walk_size l Pl.Past.none (by simp [Pl.Past.none])
theorem below_top {w X1 : World} {o : Obj} (h : Below w.heap.size w X1) : Below w.heap.size w (X1.alloc o) := h.alloc h.size o
set_option maxRecDepth 100000 in
set_option maxHeartbeats 1600000 in
theorem implHistOk_any (l : List Ev) (hwf : ∀ e ∈ l, e.Wf) (hN : l.length ≤ 1048576) (v : Value) (w : World) (hr : EvRow w l v) :
    Calls Try.prog 12 #[v] w fun x w' => x = .returned (.bool (Pl.pastB Pl.evB l).2) ∧ Below w.heap.size w w' := by
  have hp := hide (pastOf_any l hwf hN v w hr)
  have hok := hide (pastC_ok _ (pastB_size l))
  unfold pastV at hp
  obtain ⟨ad, cap, rfl, hc, hmx, hx⟩ := hr
  clear hx
  generalize (Pl.pastB Pl.evB l).2 = rb at *
  generalize pastC (Pl.pastB Pl.evB l).1 = C at *
  go_enter Try.func12, Try.ntmps12
  go_wp2_with fail
  refine hp.out.mono ?_
  rintro x1 X1 ⟨rfl, hB1⟩
  have HB1 := hide hB1
  clear hB1 hp
  go_wp2_with (first
    | (with_reducible show wpList _ _ _ (Oper.mk _ (Op.store 61 _ _) _ _ _ _ :: _) _ _; refine ws61top rfl (.tmp 3) (.tmp 8) rfl rfl _ rfl rfl hok.out ?_))
  go_ret
  exact ⟨rfl, below_top HB1.out⟩
set_option maxRecDepth 100000 in
set_option maxHeartbeats 1600000 in
theorem implHistOpen_any (l : List Ev) (hwf : ∀ e ∈ l, e.Wf) (hN : l.length ≤ 1048576) (v : Value) (w : World) (hr : EvRow w l v) :
    Calls Try.prog 15 #[v] w fun x w' => x = .returned (.bool ((Pl.pastB Pl.evB l).2 && !(Pl.pastB Pl.evB l).1.over)) ∧ Below w.heap.size w w' := by
  have hp := hide (pastOf_any l hwf hN v w hr)
  have hok := hide (pastC_ok _ (pastB_size l))
  have c46 := pastC_46 _ (pastB_size l)
  unfold pastV at hp
  obtain ⟨ad, cap, rfl, hc, hmx, hx⟩ := hr
  clear hx
  generalize (Pl.pastB Pl.evB l).2 = rb at *
  generalize pastC (Pl.pastB Pl.evB l).1 = C at *
  generalize (Pl.pastB Pl.evB l).1.over = ov at *
  cases rb
  all_goals
    go_enter Try.func15, Try.ntmps15
    go_wp2_with fail
    refine hp.out.mono ?_
    rintro x1 X1 ⟨rfl, hB1⟩
    have HB1 := hide hB1
    clear hB1 hp
    go_wp2_with (first
      | (with_reducible show wpList _ _ _ (Oper.mk _ (Op.store 61 _ _) _ _ _ _ :: _) _ _; refine ws61top rfl (.tmp 3) (.tmp 8) rfl rfl _ rfl rfl hok.out ?_))
    go_ret
    exact ⟨by first | rfl | simp, below_top HB1.out⟩
set_option maxRecDepth 100000 in
set_option maxHeartbeats 1600000 in
theorem implHistNews_any (l : List Ev) (hwf : ∀ e ∈ l, e.Wf) (hN : l.length ≤ 1048576) (v : Value) (w : World) (hr : EvRow w l v) :
    Calls Try.prog 17 #[v] w fun x w' => x = .returned (.bool ((Pl.pastB Pl.evB l).2 && ((Pl.pastB Pl.evB l).1.news && !(Pl.pastB Pl.evB l).1.over))) ∧ Below w.heap.size w w' := by
  have hp := hide (pastOf_any l hwf hN v w hr)
  have hok := hide (pastC_ok _ (pastB_size l))
  have c46 := pastC_46 _ (pastB_size l)
  have c45 := pastC_45 _ (pastB_size l)
  unfold pastV at hp
  obtain ⟨ad, cap, rfl, hc, hmx, hx⟩ := hr
  clear hx
  generalize (Pl.pastB Pl.evB l).2 = rb at *
  generalize pastC (Pl.pastB Pl.evB l).1 = C at *
  generalize (Pl.pastB Pl.evB l).1.over = ov at *
  generalize (Pl.pastB Pl.evB l).1.news = nw at *
  cases rb <;> cases nw
  all_goals
    go_enter Try.func17, Try.ntmps17
    go_wp2_with fail
    refine hp.out.mono ?_
    rintro x1 X1 ⟨rfl, hB1⟩
    have HB1 := hide hB1
    clear hB1 hp
    go_wp2_with (first
      | (with_reducible show wpList _ _ _ (Oper.mk _ (Op.store 61 _ _) _ _ _ _ :: _) _ _; refine ws61top rfl (.tmp 3) (.tmp 8) rfl rfl _ rfl rfl hok.out ?_))
    go_ret
    exact ⟨by first | rfl | simp, below_top HB1.out⟩
set_option maxRecDepth 100000 in
set_option maxHeartbeats 1600000 in
theorem implHistTasks_any (l : List Ev) (hwf : ∀ e ∈ l, e.Wf) (hN : l.length ≤ 1048576) (v : Value) (w : World) (hr : EvRow w l v) :
    Calls Try.prog 19 #[v] w fun x w' => x = .returned (.int .i64 (if (Pl.pastB Pl.evB l).2 = true then (Pl.pastB Pl.evB l).1.tasks else 0)) ∧ Below w.heap.size w w' := by
  have hp := hide (pastOf_any l hwf hN v w hr)
  have hok := hide (pastC_ok _ (pastB_size l))
  have c1 := pastC_1 (Pl.pastB Pl.evB l).1
  unfold pastV at hp
  obtain ⟨ad, cap, rfl, hc, hmx, hx⟩ := hr
  clear hx
  generalize (Pl.pastB Pl.evB l).2 = rb at *
  generalize pastC (Pl.pastB Pl.evB l).1 = C at *
  generalize (Pl.pastB Pl.evB l).1.tasks = tk at *
  cases rb
  all_goals
    go_enter Try.func19, Try.ntmps19
    go_wp2_with fail
    refine hp.out.mono ?_
    rintro x1 X1 ⟨rfl, hB1⟩
    have HB1 := hide hB1
    clear hB1 hp
    go_wp2_with (first
      | (with_reducible show wpList _ _ _ (Oper.mk _ (Op.store 61 _ _) _ _ _ _ :: _) _ _; refine ws61top rfl (.tmp 3) (.tmp 8) rfl rfl _ rfl rfl hok.out ?_))
    go_ret
    exact ⟨by first | rfl | simp, below_top HB1.out⟩
end Go.Proofs.Ytobeecopkfgplaa

/- Whether an event may stand behind others, as the specification asks it. -/
namespace Go.Proofs.Ytobeecopkfgplaa
open Go.RowKit
set_option linter.unusedVariables false
set_option linter.unusedSimpArgs false
set_option maxHeartbeats 800000 in
theorem l5May_four (l : List Ev) (v : Value) (mp : Int) (mn : ByteArray) (mo : Bool) (wk wn : Int) (wt : ByteArray) (w : World) :
    Calls Try.prog 58 #[v, cameV 4 mp mn mo wk wn wt] w fun x w' => x = .returned (.bool true) ∧ Below w.heap.size w w' := by
  go_enter Try.func58, Try.ntmps58
  go_wp2
  go_ret
  exact ⟨rfl, (Below.refl _ _).alloc (Nat.le_refl _) _⟩
theorem l5May_any (l : List Ev) (hN : l.length ≤ 1048576) (v : Value) (ct mp : Int) (mn : ByteArray) (mo : Bool) (wk wn : Int) (wt : ByteArray) (w : World) (hr : EvRow w l v) :
    Calls Try.prog 58 #[v, cameV ct mp mn mo wk wn wt] w fun x w' => x = .returned (.bool (Pl.mayP l ct mp)) ∧ Below w.heap.size w w' := by
  unfold Pl.mayP
  by_cases h4 : ct = 4
  · subst h4
    exact l5May_four l v mp mn mo wk wn wt w
  · rw [show (ct == 4) = false by simp [h4], Bool.false_or]
    cases hin : (decide (0 ≤ mp) && decide (mp ≤ ((Pl.cmdsOf l).length : Int) - 1))
    · rw [Bool.false_and]
      exact l5May_out l hN v ct mp mn mo wk wn wt w hr h4 hin
    · simp only [Bool.and_eq_true, decide_eq_true_eq] at hin
      rw [Bool.true_and]
      obtain ⟨p, rfl⟩ : ∃ p : Nat, mp = p := ⟨mp.toNat, by omega⟩
      have hp : p < (Pl.cmdsOf l).length := by omega
      obtain ⟨c, hc⟩ : ∃ c, (Pl.cmdsOf l)[p]? = some c := ⟨_, List.getElem?_eq_getElem hp⟩
      rw [Int.toNat_natCast, hc]
      simp only
      cases hen : Pl.endK c.ck
      · by_cases hct : Pl.cameS c.ck = ct
        · rw [show (Pl.cameS c.ck == ct) = true by simp [hct]]
          simpa using l5May_free l hN v ct p mn mo wk wn wt w hr h4 c hc hen hct
        · rw [show (Pl.cameS c.ck == ct) = false by simp [hct]]
          simpa using l5May_kind l hN v ct p mn mo wk wn wt w hr h4 c hc hen hct
      · simpa using l5May_end l hN v ct p mn mo wk wn wt w hr h4 c hc hen
/-- an event in a box, and nothing else turned -/
def BE (w : World) (e : Ev) (X : World) : Prop := X.heap[w.heap.size]? = some (.cells (evL e).toArray 55 (0, 0)) ∧ Below w.heap.size w X
theorem BE.later {w X X1 : World} {e : Ev} (h : BE w e X) (hB : Below X.heap.size X X1) : BE w e X1 := by
  have l0 := (Array.getElem?_eq_some_iff.1 h.1).1
  exact ⟨(hB.block _ l0).trans h.1, h.2.trans (hB.mono h.2.size)⟩
theorem BE.start {w : World} {e : Ev} : BE w e (w.alloc (.cells (evL e).toArray 55)) := ⟨by rw [heap_alloc_at, if_pos rfl], (Below.refl _ _).alloc (Nat.le_refl _) _⟩
theorem BE.lt {w X : World} {e : Ev} (h : BE w e X) : w.heap.size < X.heap.size := (Array.getElem?_eq_some_iff.1 h.1).1
set_option maxHeartbeats 800000 in
theorem next_nil (e : Ev) (v : Value) (w : World) (hr : EvRow w [] v) :
    Calls Try.prog 33 #[v, evV e] w fun x w' => x = .returned (.bool (Pl.nextB [] e)) ∧ Below w.heap.size w w' := by
  obtain ⟨ad, cap, rfl, hc, hmx, hx⟩ := hr
  clear hx
  have HE : Hid (Pl.nextB [] e = (e.k == 1)) := by show _ = _; simp [Pl.nextB]
  go_enter Try.func33, Try.ntmps33
  go_wp2
  go_ret
  exact ⟨by rw [HE.out]; rfl, (Below.refl _ _).alloc (Nat.le_refl _) _⟩
set_option maxRecDepth 100000 in
set_option maxHeartbeats 1600000 in
theorem next_bad (l : List Ev) (hl : l ≠ []) (hM : ManyOk l) (hN : l.length ≤ 1048576) (v : Value) (e : Ev) (w : World) (hr : EvRow w l v) (hbad : Pl.openB l = false ∨ e.k = 1 ∨ decide (0 < Pl.leftOf l) ≠ (e.k == 3)) :
    Calls Try.prog 33 #[v, evV e] w fun x w' => x = .returned (.bool (Pl.nextB l e)) ∧ Below w.heap.size w w' := by
  have HRW := hide hr
  have hlb := left_bound l hM l.length (Nat.le_refl _)
  rw [List.take_length] at hlb
  obtain ⟨ad, cap, rfl, hc, hmx, hx⟩ := hr
  unfold maxLen at hmx
  clear hx
  have hlen0 : 0 < l.length := List.length_pos_iff.2 hl
  have hleft := hide (fun W hW => l5Left_any l hM hN (.slice ad l.length cap) W hW)
  have hopen := hide (fun W hW => l5Open_any l hN (.slice ad l.length cap) W hW)
  have hz0 : ((l.length : Int) == 0) = false := by simp; omega
  have HE : Hid (Pl.nextB l e = false) := by show _ = _; unfold Pl.nextB; rw [if_neg hl, if_pos hbad]
  rw [HE.out]
  have HBAD : Hid ((!Pl.openB l || ((e.k == 1) || (decide (0 < Pl.leftOf l) != (e.k == 3)))) = true) := by
    show _ = _
    rcases hbad with h | h | h
    · simp [h]
    · simp [h]
    · have : (decide (0 < Pl.leftOf l) != (e.k == 3)) = true := by simpa using h
      simp [this]
  clear hbad hM hl
  generalize Pl.openB l = ob at *
  generalize Pl.leftOf l = lf at *
  generalize hk1 : (e.k == 1) = k1 at *
  generalize hk3 : (e.k == 3) = k3 at *
  generalize hlf : decide (0 < lf) = b2 at *
  cases ob
  · go_enter Try.func33, Try.ntmps33
    go_wp2_with fail
    refine (hleft.out _ (HRW.out.later ((Below.refl _ _).alloc (Nat.le_refl _) _))).mono ?_
    rintro x1 w1 ⟨rfl, rfl⟩
    go_wp2_with fail
    refine (hopen.out _ (HRW.out.later ((Below.refl _ _).alloc (Nat.le_refl _) _))).mono ?_
    rintro x2 X ⟨rfl, hB2⟩
    have HBE := hide (BE.start.later hB2)
    have y0 : X.cell? ⟨w.heap.size, 0, none⟩ = some (.int .i64 e.k) := cell_of_block HBE.out.1 0
    clear hB2 hopen hleft
    go_wp2_with fail
    go_ret
    exact ⟨rfl, HBE.out.2⟩
  · cases k1
    · have hmis : (b2 != k3) = true := by simpa using HBAD.out
      cases b2 <;> cases k3
      all_goals first | (exact absurd hmis (by decide)) | skip
      all_goals
        clear hmis
        go_enter Try.func33, Try.ntmps33
        go_wp2_with fail
        refine (hleft.out _ (HRW.out.later ((Below.refl _ _).alloc (Nat.le_refl _) _))).mono ?_
        rintro x1 w1 ⟨rfl, rfl⟩
        go_wp2_with fail
        refine (hopen.out _ (HRW.out.later ((Below.refl _ _).alloc (Nat.le_refl _) _))).mono ?_
        rintro x2 X ⟨rfl, hB2⟩
        have HBE := hide (BE.start.later hB2)
        have y0 : X.cell? ⟨w.heap.size, 0, none⟩ = some (.int .i64 e.k) := cell_of_block HBE.out.1 0
        clear hB2 hopen hleft
        go_wp2_with fail
        go_ret
        exact ⟨rfl, HBE.out.2⟩
    · go_enter Try.func33, Try.ntmps33
      go_wp2_with fail
      refine (hleft.out _ (HRW.out.later ((Below.refl _ _).alloc (Nat.le_refl _) _))).mono ?_
      rintro x1 w1 ⟨rfl, rfl⟩
      go_wp2_with fail
      refine (hopen.out _ (HRW.out.later ((Below.refl _ _).alloc (Nat.le_refl _) _))).mono ?_
      rintro x2 X ⟨rfl, hB2⟩
      have HBE := hide (BE.start.later hB2)
      have y0 : X.cell? ⟨w.heap.size, 0, none⟩ = some (.int .i64 e.k) := cell_of_block HBE.out.1 0
      clear hB2 hopen hleft
      go_wp2_with fail
      go_ret
      exact ⟨rfl, HBE.out.2⟩
set_option maxRecDepth 100000 in
set_option maxHeartbeats 1600000 in
theorem next_task (l : List Ev) (hl : l ≠ []) (hM : ManyOk l) (hN : l.length ≤ 1048576) (v : Value) (e : Ev) (w : World) (hr : EvRow w l v) (hgood : ¬ (Pl.openB l = false ∨ e.k = 1 ∨ decide (0 < Pl.leftOf l) ≠ (e.k == 3))) (hk : e.k = 2) (hm : 0 ≤ e.many ∧ e.many ≤ 40) :
    Calls Try.prog 33 #[v, evV e] w fun x w' => x = .returned (.bool (Pl.nextB l e)) ∧ Below w.heap.size w w' := by
  have HRW := hide hr
  have hlb := left_bound l hM l.length (Nat.le_refl _)
  rw [List.take_length] at hlb
  obtain ⟨ad, cap, rfl, hc, hmx, hx⟩ := hr
  unfold maxLen at hmx
  clear hx
  have hlen0 : 0 < l.length := List.length_pos_iff.2 hl
  have hleft := hide (fun W hW => l5Left_any l hM hN (.slice ad l.length cap) W hW)
  have hopen := hide (fun W hW => l5Open_any l hN (.slice ad l.length cap) W hW)
  have hz0 : ((l.length : Int) == 0) = false := by simp; omega
  have HE : Hid (Pl.nextB l e = (Pl.newsOf l && decide (((Pl.cmdsOf l).length : Int) + e.many ≤ 40))) := by
    show _ = _
    unfold Pl.nextB
    rw [if_neg hl, if_neg hgood]
    rw [if_pos hk]
  rw [HE.out]
  have ho : Pl.openB l = true := by
    cases hb : Pl.openB l
    · exact absurd (Or.inl hb) hgood
    · rfl
  have hk1 : (e.k == 1) = false := by
    have : ¬ e.k = 1 := fun hb => hgood (Or.inr (Or.inl hb))
    simp [this]
  have hb2 : decide (0 < Pl.leftOf l) = (e.k == 3) := Classical.byContradiction fun hb => hgood (Or.inr (Or.inr hb))
  have hnews := hide (fun W hW => l5News_any l hN (.slice ad l.length cap) W hW)
  have hcl := hide (fun W hW => l5Cmds_any l hN (.slice ad l.length cap) W hW)
  have hlc : (Pl.cmdsOf l).length ≤ l.length := by unfold Pl.cmdsOf; exact List.length_filter_le _ _
  generalize Pl.newsOf l = nw at *
  have k2 : (e.k == 2) = true := by simp [hk]
  have k3 : (e.k == 3) = false := by simp [hk]
  rw [k3] at hb2
  clear hk
  clear hgood hM hl
  rw [ho] at hopen
  clear ho
  generalize Pl.leftOf l = lf at *
  go_enter Try.func33, Try.ntmps33
  go_wp2_with fail
  refine (hleft.out _ (HRW.out.later ((Below.refl _ _).alloc (Nat.le_refl _) _))).mono ?_
  rintro x1 w1 ⟨rfl, rfl⟩
  go_wp2_with fail
  refine (hopen.out _ (HRW.out.later ((Below.refl _ _).alloc (Nat.le_refl _) _))).mono ?_
  rintro x2 X ⟨rfl, hB2⟩
  have HBE := hide (BE.start.later hB2)
  have y0 : X.cell? ⟨w.heap.size, 0, none⟩ = some (.int .i64 e.k) := cell_of_block HBE.out.1 0
  clear hB2 hopen hleft
  have YM : Hid (X.cell? ⟨w.heap.size, 4, none⟩ = some (.int .i64 e.many)) := cell_of_block HBE.out.1 4
  go_wp2_with fail
  cases nw
  · refine wp_region_noPanic ?_
    refine wp_region_held_drew (S := fun W => Below X.heap.size X W) (by kernel_rfl) (below_drew' (Below.refl _ _)) (fun hHeld => ?_)
    refine wpAnyH_take (i := 0) (oi := Oper.mk (some 34) _ _ _ _ _) (v := ?_) rfl (by kernel_rfl) (by kernel_rfl) (by kernel_rfl) (fun _ _ _ h => h) (Or.inl ⟨by rfl, ?_⟩) (by assumption) ?_
    rotate_left
    · intro w0 hSw
      clear hSw
      go_simp
      all_goals (with_reducible rfl)
    simp only [Act.put, List.setIfInBounds_toArray, List.set_cons_zero, List.set_cons_succ]
    refine wpAnyH_ready (rs := [1]) (by kernel_rfl) (by simp) ?_
    refine AllReadyH.cons (o := Oper.mk (some 35) _ _ _ _ _) rfl (fun K hK => ?_) AllReadyH.nil
    go_simp
    go_at_call 40
    refine (hnews.out _ (HRW.out.later (HBE.out.2.trans (hHeld.mono HBE.out.2.size)))).mono ?_
    rintro x0 w0 ⟨rfl, rfl⟩
    go_wp2_with fail
    refine hK.out _ _ hHeld (fun hHeld => ?_)
    clear hK K
    (try simp only [Act.put, List.setIfInBounds_toArray, List.set_cons_zero, List.set_cons_succ])
    refine wpAnyH_take (i := 2) (oi := Oper.mk (some 36) _ _ _ _ _) (v := ?_) rfl (by kernel_rfl) (by kernel_rfl) (by kernel_rfl) (fun _ _ _ h => h) (Or.inl ⟨by rfl, ?_⟩) (by assumption) ?_
    rotate_left
    · intro w0 hSw
      clear hSw
      go_simp
      all_goals (with_reducible rfl)
    simp only [Act.put, List.setIfInBounds_toArray, List.set_cons_zero, List.set_cons_succ]
    refine wpAnyH_take (i := 3) (oi := Oper.mk (some 37) _ _ _ _ _) (v := undef) rfl (by kernel_rfl) (by kernel_rfl) (by kernel_rfl) (fun _ _ _ h => h) (Or.inr ⟨by rfl, rfl⟩) (by assumption) ?_
    simp only [Act.put, List.setIfInBounds_toArray, List.set_cons_zero, List.set_cons_succ]
    refine wpAnyH_take (i := 4) (oi := Oper.mk (some 38) _ _ _ _ _) (v := undef) rfl (by kernel_rfl) (by kernel_rfl) (by kernel_rfl) (fun _ _ _ h => h) (Or.inr ⟨by rfl, rfl⟩) (by assumption) ?_
    simp only [Act.put, List.setIfInBounds_toArray, List.set_cons_zero, List.set_cons_succ]
    refine wpAnyH_take (i := 5) (oi := Oper.mk (some 39) _ _ _ _ _) (v := undef) rfl (by kernel_rfl) (by kernel_rfl) (by kernel_rfl) (fun _ _ _ h => h) (Or.inr ⟨by rfl, rfl⟩) (by assumption) ?_
    simp only [Act.put, List.setIfInBounds_toArray, List.set_cons_zero, List.set_cons_succ]
    refine wpAnyH_take (i := 6) (oi := Oper.mk (some 40) _ _ _ _ _) (v := undef) rfl (by kernel_rfl) (by kernel_rfl) (by kernel_rfl) (fun _ _ _ h => h) (Or.inr ⟨by rfl, rfl⟩) (by assumption) ?_
    simp only [Act.put, List.setIfInBounds_toArray, List.set_cons_zero, List.set_cons_succ]
    refine wpAnyH_take (i := 7) (oi := Oper.mk (some 41) _ _ _ _ _) (v := undef) rfl (by kernel_rfl) (by kernel_rfl) (by kernel_rfl) (fun _ _ _ h => h) (Or.inr ⟨by rfl, rfl⟩) (by assumption) ?_
    simp only [Act.put, List.setIfInBounds_toArray, List.set_cons_zero, List.set_cons_succ]
    refine wpAnyH_take (i := 8) (oi := Oper.mk (some 42) _ _ _ _ _) (v := undef) rfl (by kernel_rfl) (by kernel_rfl) (by kernel_rfl) (fun _ _ _ h => h) (Or.inr ⟨by rfl, rfl⟩) (by assumption) ?_
    simp only [Act.put, List.setIfInBounds_toArray, List.set_cons_zero, List.set_cons_succ]
    refine wpAnyH_take (i := 9) (oi := Oper.mk (some 43) _ _ _ _ _) (v := undef) rfl (by kernel_rfl) (by kernel_rfl) (by kernel_rfl) (fun _ _ _ h => h) (Or.inr ⟨by rfl, rfl⟩) (by assumption) ?_
    simp only [Act.put, List.setIfInBounds_toArray, List.set_cons_zero, List.set_cons_succ]
    refine wpAnyH_take (i := 10) (oi := Oper.mk (some 44) _ _ _ _ _) (v := ?_) rfl (by kernel_rfl) (by kernel_rfl) (by kernel_rfl) (fun _ _ _ h => h) (Or.inl ⟨by rfl, ?_⟩) (by assumption) ?_
    rotate_left
    · intro w0 hSw
      clear hSw
      go_simp
      all_goals (with_reducible rfl)
    simp only [Act.put, List.setIfInBounds_toArray, List.set_cons_zero, List.set_cons_succ]
    refine wpAnyH_take (i := 11) (oi := Oper.mk (some 4) _ _ _ _ _) (v := ?_) rfl (by kernel_rfl) (by kernel_rfl) (by kernel_rfl) (fun _ _ _ h => h) (Or.inl ⟨by rfl, ?_⟩) (by assumption) ?_
    rotate_left
    · intro w0 hSw
      clear hSw
      go_simp
      all_goals (with_reducible rfl)
    simp only [Act.put, List.setIfInBounds_toArray, List.set_cons_zero, List.set_cons_succ]
    refine wpAnyH_done (by kernel_rfl) ?_ _
    refine NoPanic.normal ?_
    go_wp2_with fail
    go_ret
    exact ⟨rfl, HBE.out.2.trans (hHeld.mono HBE.out.2.size)⟩
  · have hwr : IntKind.i64.wrap (((Pl.cmdsOf l).length : Int) + e.many) = ((Pl.cmdsOf l).length : Int) + e.many := by rw [IntKind.wrap_i64]; omega
    refine wp_region_noPanic ?_
    refine wp_region_held_drew (S := fun W => Below X.heap.size X W) (by kernel_rfl) (below_drew' (Below.refl _ _)) (fun hHeld => ?_)
    refine wpAnyH_take (i := 0) (oi := Oper.mk (some 34) _ _ _ _ _) (v := ?_) rfl (by kernel_rfl) (by kernel_rfl) (by kernel_rfl) (fun _ _ _ h => h) (Or.inl ⟨by rfl, ?_⟩) (by assumption) ?_
    rotate_left
    · intro w0 hSw
      clear hSw
      go_simp
      all_goals (with_reducible rfl)
    simp only [Act.put, List.setIfInBounds_toArray, List.set_cons_zero, List.set_cons_succ]
    refine wpAnyH_ready (rs := [1]) (by kernel_rfl) (by simp) ?_
    refine AllReadyH.cons (o := Oper.mk (some 35) _ _ _ _ _) rfl (fun K hK => ?_) AllReadyH.nil
    go_simp
    go_at_call 40
    refine (hnews.out _ (HRW.out.later (HBE.out.2.trans (hHeld.mono HBE.out.2.size)))).mono ?_
    rintro x0 w0 ⟨rfl, rfl⟩
    go_wp2_with fail
    refine hK.out _ _ hHeld (fun hHeld => ?_)
    clear hK K
    (try simp only [Act.put, List.setIfInBounds_toArray, List.set_cons_zero, List.set_cons_succ])
    refine wpAnyH_take (i := 2) (oi := Oper.mk (some 36) _ _ _ _ _) (v := ?_) rfl (by kernel_rfl) (by kernel_rfl) (by kernel_rfl) (fun _ _ _ h => h) (Or.inl ⟨by rfl, ?_⟩) (by assumption) ?_
    rotate_left
    · intro w0 hSw
      clear hSw
      go_simp
      all_goals (with_reducible rfl)
    simp only [Act.put, List.setIfInBounds_toArray, List.set_cons_zero, List.set_cons_succ]
    refine wpAnyH_take (i := 3) (oi := Oper.mk (some 37) _ _ _ _ _) (v := ?_) rfl (by kernel_rfl) (by kernel_rfl) (by kernel_rfl) (fun _ _ _ h => h) (Or.inl ⟨by rfl, ?_⟩) (by assumption) ?_
    rotate_left
    · intro w0 hSw
      clear hSw
      go_simp
      all_goals (with_reducible rfl)
    simp only [Act.put, List.setIfInBounds_toArray, List.set_cons_zero, List.set_cons_succ]
    refine wpAnyH_take (i := 6) (oi := Oper.mk (some 40) _ _ _ _ _) (v := ?_) rfl (by kernel_rfl) (by kernel_rfl) (by kernel_rfl) (fun _ _ _ h => h) (Or.inl ⟨by rfl, ?_⟩) (by assumption) ?_
    rotate_left
    · intro w0 hSw
      clear hSw
      go_simp
      all_goals (with_reducible rfl)
    simp only [Act.put, List.setIfInBounds_toArray, List.set_cons_zero, List.set_cons_succ]
    refine wpAnyH_take (i := 7) (oi := Oper.mk (some 41) _ _ _ _ _) (v := ?_) rfl (by kernel_rfl) (by kernel_rfl) (by kernel_rfl) (fun _ _ _ h => h) (Or.inl ⟨by rfl, ?_⟩) (by assumption) ?_
    rotate_left
    · intro w0 hSw
      have z0 : w0.cell? ⟨w.heap.size, 4, none⟩ = some (.int .i64 e.many) := (Below.cell hSw (p := ⟨w.heap.size, 4, none⟩) HBE.out.lt).trans YM.out
      clear hSw
      go_simp
      all_goals (with_reducible rfl)
    simp only [Act.put, List.setIfInBounds_toArray, List.set_cons_zero, List.set_cons_succ]
    refine wpAnyH_ready (rs := [4]) (by kernel_rfl) (by simp) ?_
    refine AllReadyH.cons (o := Oper.mk (some 38) _ _ _ _ _) rfl (fun K hK => ?_) AllReadyH.nil
    go_simp
    go_at_call 42
    refine (hcl.out _ (HRW.out.later (HBE.out.2.trans (hHeld.mono HBE.out.2.size)))).mono ?_
    rintro x0 w0 ⟨v1, rfl, ho1, hB0⟩
    have hHeld' := Below.trans hHeld (hB0.mono hHeld.size)
    obtain ⟨a1, c1, hv1⟩ := ownsRow_form ho1
    subst hv1
    clear ho1
    clear hB0 hHeld
    go_wp2_with fail
    refine hK.out _ _ hHeld' (fun hHeld => ?_)
    clear hK K hHeld'
    (try simp only [Act.put, List.setIfInBounds_toArray, List.set_cons_zero, List.set_cons_succ])
    refine wpAnyH_take (i := 5) (oi := Oper.mk (some 39) _ _ _ _ _) (v := ?_) rfl (by kernel_rfl) (by kernel_rfl) (by kernel_rfl) (fun _ _ _ h => h) (Or.inl ⟨by rfl, ?_⟩) (by assumption) ?_
    rotate_left
    · intro w0 hSw
      clear hSw
      go_simp
      all_goals (with_reducible rfl)
    simp only [Act.put, List.setIfInBounds_toArray, List.set_cons_zero, List.set_cons_succ]
    refine wpAnyH_take (i := 8) (oi := Oper.mk (some 42) _ _ _ _ _) (v := ?_) rfl (by kernel_rfl) (by kernel_rfl) (by kernel_rfl) (fun _ _ _ h => h) (Or.inl ⟨by rfl, ?_⟩) (by assumption) ?_
    rotate_left
    · intro w0 hSw
      clear hSw
      go_simp
      all_goals (with_reducible rfl)
    simp only [Act.put, List.setIfInBounds_toArray, List.set_cons_zero, List.set_cons_succ]
    refine wpAnyH_take (i := 9) (oi := Oper.mk (some 43) _ _ _ _ _) (v := ?_) rfl (by kernel_rfl) (by kernel_rfl) (by kernel_rfl) (fun _ _ _ h => h) (Or.inl ⟨by rfl, ?_⟩) (by assumption) ?_
    rotate_left
    · intro w0 hSw
      clear hSw
      go_simp
      all_goals (with_reducible rfl)
    simp only [Act.put, List.setIfInBounds_toArray, List.set_cons_zero, List.set_cons_succ]
    refine wpAnyH_take (i := 10) (oi := Oper.mk (some 44) _ _ _ _ _) (v := ?_) rfl (by kernel_rfl) (by kernel_rfl) (by kernel_rfl) (fun _ _ _ h => h) (Or.inl ⟨by rfl, ?_⟩) (by assumption) ?_
    rotate_left
    · intro w0 hSw
      clear hSw
      go_simp
      all_goals (with_reducible rfl)
    simp only [Act.put, List.setIfInBounds_toArray, List.set_cons_zero, List.set_cons_succ]
    refine wpAnyH_take (i := 11) (oi := Oper.mk (some 4) _ _ _ _ _) (v := ?_) rfl (by kernel_rfl) (by kernel_rfl) (by kernel_rfl) (fun _ _ _ h => h) (Or.inl ⟨by rfl, ?_⟩) (by assumption) ?_
    rotate_left
    · intro w0 hSw
      clear hSw
      go_simp
      all_goals (with_reducible rfl)
    simp only [Act.put, List.setIfInBounds_toArray, List.set_cons_zero, List.set_cons_succ]
    refine wpAnyH_done (by kernel_rfl) ?_ _
    refine NoPanic.normal ?_
    go_wp2_with fail
    go_ret
    exact ⟨by first | rfl | simp, HBE.out.2.trans (hHeld.mono HBE.out.2.size)⟩
set_option maxRecDepth 100000 in
set_option maxHeartbeats 1600000 in
theorem next_cmd (l : List Ev) (hl : l ≠ []) (hM : ManyOk l) (hN : l.length ≤ 1048576) (v : Value) (e : Ev) (w : World) (hr : EvRow w l v) (hgood : ¬ (Pl.openB l = false ∨ e.k = 1 ∨ decide (0 < Pl.leftOf l) ≠ (e.k == 3))) (hk : e.k = 3) :
    Calls Try.prog 33 #[v, evV e] w fun x w' => x = .returned (.bool (Pl.nextB l e)) ∧ Below w.heap.size w w' := by
  have HRW := hide hr
  have hlb := left_bound l hM l.length (Nat.le_refl _)
  rw [List.take_length] at hlb
  obtain ⟨ad, cap, rfl, hc, hmx, hx⟩ := hr
  unfold maxLen at hmx
  clear hx
  have hlen0 : 0 < l.length := List.length_pos_iff.2 hl
  have hleft := hide (fun W hW => l5Left_any l hM hN (.slice ad l.length cap) W hW)
  have hopen := hide (fun W hW => l5Open_any l hN (.slice ad l.length cap) W hW)
  have hz0 : ((l.length : Int) == 0) = false := by simp; omega
  have HE : Hid (Pl.nextB l e = (!Pl.endK e.ck || (Pl.leftOf l == 1))) := by
    show _ = _
    unfold Pl.nextB
    rw [if_neg hl, if_neg hgood]
    rw [if_neg (by omega), if_pos hk]
  rw [HE.out]
  have ho : Pl.openB l = true := by
    cases hb : Pl.openB l
    · exact absurd (Or.inl hb) hgood
    · rfl
  have hk1 : (e.k == 1) = false := by
    have : ¬ e.k = 1 := fun hb => hgood (Or.inr (Or.inl hb))
    simp [this]
  have hb2 : decide (0 < Pl.leftOf l) = (e.k == 3) := Classical.byContradiction fun hb => hgood (Or.inr (Or.inr hb))
  have hend := hide (fun W => l5Ends_any e.ck e.cn e.ak e.an e.ax W)
  generalize Pl.endK e.ck = en at *
  have k2 : (e.k == 2) = false := by simp [hk]
  have k3 : (e.k == 3) = true := by simp [hk]
  rw [k3] at hb2
  clear hk
  clear hgood hM hl
  rw [ho] at hopen
  clear ho
  generalize Pl.leftOf l = lf at *
  go_enter Try.func33, Try.ntmps33
  go_wp2_with fail
  refine (hleft.out _ (HRW.out.later ((Below.refl _ _).alloc (Nat.le_refl _) _))).mono ?_
  rintro x1 w1 ⟨rfl, rfl⟩
  go_wp2_with fail
  refine (hopen.out _ (HRW.out.later ((Below.refl _ _).alloc (Nat.le_refl _) _))).mono ?_
  rintro x2 X ⟨rfl, hB2⟩
  have HBE := hide (BE.start.later hB2)
  have y0 : X.cell? ⟨w.heap.size, 0, none⟩ = some (.int .i64 e.k) := cell_of_block HBE.out.1 0
  clear hB2 hopen hleft
  have y5 : X.cell? ⟨w.heap.size, 5, none⟩ = some (.int .i64 e.ck) := cell_of_block HBE.out.1 5
  have y6 : X.cell? ⟨w.heap.size, 6, none⟩ = some (.string e.cn) := cell_of_block HBE.out.1 6
  have y7 : X.cell? ⟨w.heap.size, 7, none⟩ = some (.int .i64 e.ak) := cell_of_block HBE.out.1 7
  have y8 : X.cell? ⟨w.heap.size, 8, none⟩ = some (.int .i64 e.an) := cell_of_block HBE.out.1 8
  have y9 : X.cell? ⟨w.heap.size, 9, none⟩ = some (.string e.ax) := cell_of_block HBE.out.1 9
  go_wp2_with fail
  refine (hend.out _).mono ?_
  rintro x3 X3 ⟨rfl, hB3⟩
  have HB3 := hide (HBE.out.later hB3)
  clear hB3 HBE y0 y5 y6 y7 y8 y9
  cases en
  all_goals
    go_wp2_with fail
    go_ret
    exact ⟨by first | rfl | simp, HB3.out.2⟩
set_option maxRecDepth 100000 in
set_option maxHeartbeats 1600000 in
theorem next_came (l : List Ev) (hl : l ≠ []) (hM : ManyOk l) (hN : l.length ≤ 1048576) (v : Value) (e : Ev) (w : World) (hr : EvRow w l v) (hgood : ¬ (Pl.openB l = false ∨ e.k = 1 ∨ decide (0 < Pl.leftOf l) ≠ (e.k == 3))) (hk : e.k = 4) :
    Calls Try.prog 33 #[v, evV e] w fun x w' => x = .returned (.bool (Pl.nextB l e)) ∧ Below w.heap.size w w' := by
  have HRW := hide hr
  have hlb := left_bound l hM l.length (Nat.le_refl _)
  rw [List.take_length] at hlb
  obtain ⟨ad, cap, rfl, hc, hmx, hx⟩ := hr
  unfold maxLen at hmx
  clear hx
  have hlen0 : 0 < l.length := List.length_pos_iff.2 hl
  have hleft := hide (fun W hW => l5Left_any l hM hN (.slice ad l.length cap) W hW)
  have hopen := hide (fun W hW => l5Open_any l hN (.slice ad l.length cap) W hW)
  have hz0 : ((l.length : Int) == 0) = false := by simp; omega
  have HE : Hid (Pl.nextB l e = (Pl.mayP l e.ct e.mp && decide (((Pl.comesOf l).length : Int) < 60))) := by
    show _ = _
    unfold Pl.nextB
    rw [if_neg hl, if_neg hgood]
    rw [if_neg (by omega), if_neg (by omega), if_pos hk, mayB_eq]
  rw [HE.out]
  have ho : Pl.openB l = true := by
    cases hb : Pl.openB l
    · exact absurd (Or.inl hb) hgood
    · rfl
  have hk1 : (e.k == 1) = false := by
    have : ¬ e.k = 1 := fun hb => hgood (Or.inr (Or.inl hb))
    simp [this]
  have hb2 : decide (0 < Pl.leftOf l) = (e.k == 3) := Classical.byContradiction fun hb => hgood (Or.inr (Or.inr hb))
  have hmay := hide (fun W hW => l5May_any l hN (.slice ad l.length cap) e.ct e.mp e.mn e.mo e.wk e.wn e.wt W hW)
  have hcs := hide (fun W hW => l5Comes_any l hN (.slice ad l.length cap) W hW)
  have hlc : (Pl.comesOf l).length ≤ l.length := by unfold Pl.comesOf; exact List.length_filter_le _ _
  generalize Pl.mayP l e.ct e.mp = mb at *
  have k2 : (e.k == 2) = false := by simp [hk]
  have k3 : (e.k == 3) = false := by simp [hk]
  have k4 : (e.k == 4) = true := by simp [hk]
  rw [k3] at hb2
  clear hk
  clear hgood hM hl
  rw [ho] at hopen
  clear ho
  generalize Pl.leftOf l = lf at *
  go_enter Try.func33, Try.ntmps33
  go_wp2_with fail
  refine (hleft.out _ (HRW.out.later ((Below.refl _ _).alloc (Nat.le_refl _) _))).mono ?_
  rintro x1 w1 ⟨rfl, rfl⟩
  go_wp2_with fail
  refine (hopen.out _ (HRW.out.later ((Below.refl _ _).alloc (Nat.le_refl _) _))).mono ?_
  rintro x2 X ⟨rfl, hB2⟩
  have HBE := hide (BE.start.later hB2)
  have y0 : X.cell? ⟨w.heap.size, 0, none⟩ = some (.int .i64 e.k) := cell_of_block HBE.out.1 0
  clear hB2 hopen hleft
  have y10 : X.cell? ⟨w.heap.size, 10, none⟩ = some (.int .i64 e.ct) := cell_of_block HBE.out.1 10
  have y11 : X.cell? ⟨w.heap.size, 11, none⟩ = some (.int .i64 e.mp) := cell_of_block HBE.out.1 11
  have y12 : X.cell? ⟨w.heap.size, 12, none⟩ = some (.string e.mn) := cell_of_block HBE.out.1 12
  have y13 : X.cell? ⟨w.heap.size, 13, none⟩ = some (.bool e.mo) := cell_of_block HBE.out.1 13
  have y14 : X.cell? ⟨w.heap.size, 14, none⟩ = some (.int .i64 e.wk) := cell_of_block HBE.out.1 14
  have y15 : X.cell? ⟨w.heap.size, 15, none⟩ = some (.int .i64 e.wn) := cell_of_block HBE.out.1 15
  have y16 : X.cell? ⟨w.heap.size, 16, none⟩ = some (.string e.wt) := cell_of_block HBE.out.1 16
  go_wp2_with fail
  refine (hmay.out _ (HRW.out.later HBE.out.2)).mono ?_
  rintro x3 X3 ⟨rfl, hB3⟩
  have HB3 := hide (HBE.out.later hB3)
  clear hB3 HBE y0 y10 y11 y12 y13 y14 y15 y16
  cases mb
  · go_wp2_with fail
    go_ret
    exact ⟨by first | rfl | simp, HB3.out.2⟩
  · go_wp2_with fail
    refine (hcs.out _ (HRW.out.later HB3.out.2)).mono ?_
    rintro x4 X4 ⟨v4, rfl, ho4, hB4⟩
    have HB4 := hide (HB3.out.later hB4)
    obtain ⟨a4, c4, hv4⟩ := ownsRow_form ho4
    subst hv4
    clear hB4 HB3 ho4
    go_wp2_with fail
    go_ret
    exact ⟨by first | rfl | simp, HB4.out.2⟩
set_option maxRecDepth 100000 in
set_option maxHeartbeats 1600000 in
theorem next_else (l : List Ev) (hl : l ≠ []) (hM : ManyOk l) (hN : l.length ≤ 1048576) (v : Value) (e : Ev) (w : World) (hr : EvRow w l v) (hgood : ¬ (Pl.openB l = false ∨ e.k = 1 ∨ decide (0 < Pl.leftOf l) ≠ (e.k == 3))) (hk : ¬ e.k = 2 ∧ ¬ e.k = 3 ∧ ¬ e.k = 4) :
    Calls Try.prog 33 #[v, evV e] w fun x w' => x = .returned (.bool (Pl.nextB l e)) ∧ Below w.heap.size w w' := by
  have HRW := hide hr
  have hlb := left_bound l hM l.length (Nat.le_refl _)
  rw [List.take_length] at hlb
  obtain ⟨ad, cap, rfl, hc, hmx, hx⟩ := hr
  unfold maxLen at hmx
  clear hx
  have hlen0 : 0 < l.length := List.length_pos_iff.2 hl
  have hleft := hide (fun W hW => l5Left_any l hM hN (.slice ad l.length cap) W hW)
  have hopen := hide (fun W hW => l5Open_any l hN (.slice ad l.length cap) W hW)
  have hz0 : ((l.length : Int) == 0) = false := by simp; omega
  have HE : Hid (Pl.nextB l e = (true)) := by
    show _ = _
    unfold Pl.nextB
    rw [if_neg hl, if_neg hgood]
    rw [if_neg hk.1, if_neg hk.2.1, if_neg hk.2.2]
  rw [HE.out]
  have ho : Pl.openB l = true := by
    cases hb : Pl.openB l
    · exact absurd (Or.inl hb) hgood
    · rfl
  have hk1 : (e.k == 1) = false := by
    have : ¬ e.k = 1 := fun hb => hgood (Or.inr (Or.inl hb))
    simp [this]
  have hb2 : decide (0 < Pl.leftOf l) = (e.k == 3) := Classical.byContradiction fun hb => hgood (Or.inr (Or.inr hb))
  have k2 : (e.k == 2) = false := by simp [hk.1]
  have k3 : (e.k == 3) = false := by simp [hk.2.1]
  have k4 : (e.k == 4) = false := by simp [hk.2.2]
  rw [k3] at hb2
  clear hk
  clear hgood hM hl
  rw [ho] at hopen
  clear ho
  generalize Pl.leftOf l = lf at *
  go_enter Try.func33, Try.ntmps33
  go_wp2_with fail
  refine (hleft.out _ (HRW.out.later ((Below.refl _ _).alloc (Nat.le_refl _) _))).mono ?_
  rintro x1 w1 ⟨rfl, rfl⟩
  go_wp2_with fail
  refine (hopen.out _ (HRW.out.later ((Below.refl _ _).alloc (Nat.le_refl _) _))).mono ?_
  rintro x2 X ⟨rfl, hB2⟩
  have HBE := hide (BE.start.later hB2)
  have y0 : X.cell? ⟨w.heap.size, 0, none⟩ = some (.int .i64 e.k) := cell_of_block HBE.out.1 0
  clear hB2 hopen hleft
  go_wp2_with fail
  go_ret
  exact ⟨rfl, HBE.out.2⟩
theorem l5Next_any (l : List Ev) (hM : ManyOk l) (hN : l.length ≤ 1048576) (v : Value) (e : Ev) (hm : e.k = 2 → 0 ≤ e.many ∧ e.many ≤ 40) (w : World) (hr : EvRow w l v) :
    Calls Try.prog 33 #[v, evV e] w fun x w' => x = .returned (.bool (Pl.nextB l e)) ∧ Below w.heap.size w w' := by
  by_cases hl : l = []
  · subst hl
    exact next_nil e v w hr
  · by_cases hbad : Pl.openB l = false ∨ e.k = 1 ∨ decide (0 < Pl.leftOf l) ≠ (e.k == 3)
    · exact next_bad l hl hM hN v e w hr hbad
    · by_cases k2 : e.k = 2
      · exact next_task l hl hM hN v e w hr hbad k2 (hm k2)
      · by_cases k3 : e.k = 3
        · exact next_cmd l hl hM hN v e w hr hbad k3
        · by_cases k4 : e.k = 4
          · exact next_came l hl hM hN v e w hr hbad k4
          · exact next_else l hl hM hN v e w hr hbad ⟨k2, k3, k4⟩
end Go.Proofs.Ytobeecopkfgplaa

/- Whether events are a history, as the specification asks it. -/
namespace Go.Proofs.Ytobeecopkfgplaa
open Go.RowKit
set_option linter.unusedVariables false
set_option linter.unusedSimpArgs false
theorem good_many {l : List Ev} {i : Nat} (h : Pl.goodTo Pl.evB l i = true) (hi : i ≤ l.length) : ManyOk (l.take i) := by
  intro e he h2
  obtain ⟨j, hj⟩ := List.mem_iff_getElem?.1 he
  rw [List.getElem?_take] at hj
  split at hj
  · rename_i hlt
    have := Pl.goodTo_mono Pl.evB l (show j + 1 ≤ i by omega) h
    rw [Pl.goodTo_succ Pl.evB l j e hj] at this
    simp only [Bool.and_eq_true] at this
    exact (evB_fit e this.2.1).1 h2
  · cases hj
set_option maxRecDepth 100000 in
set_option maxHeartbeats 3200000 in
theorem specHistOk_any (l : List Ev) (hwf : ∀ e ∈ l, e.Wf) (hN : l.length ≤ 1048576) (v : Value) (w : World) (hr : EvRow w l v) :
    Calls Try.prog 10 #[v] w fun x w' => x = .returned (.bool (Pl.histB Pl.evB l)) ∧ Below w.heap.size w w' := by
  have HRW := hide hr
  obtain ⟨ad, cap, rfl, hc, hmx, hx⟩ := hr
  unfold maxLen at hmx
  have HX := hide hx
  have HW := hide hwf
  clear hx hwf
  go_enter Try.func10, Try.ntmps10
  go_wp2_with fail
  go_loopw [3] (fun iv wr => ∃ i : Nat, i ≤ l.length ∧ iv = .int .i64 i ∧ Hid (Pl.goodTo Pl.evB l i = true) ∧ Hid (Below w.heap.size w wr)) (fun iv _ => l.length - (intOf iv).toNat)
  case atStart => exact ⟨0, by omega, rfl, Pl.goodTo_zero _ _, Below.refl _ _⟩
  case round =>
    obtain ⟨i, hi, rfl, HG, HB⟩ := hrel
    by_cases hlt : i < l.length
    · obtain ⟨g, off, rfl, hg, hs⟩ := HX.out (by omega)
      obtain ⟨e, he⟩ : ∃ e, l[i]? = some e := ⟨_, List.getElem?_eq_getElem hlt⟩
      have HAT := hide ((hs i e he).later HB.out hg)
      have HGX : Hid (g < wr.heap.size) := by show _ < _; have := HB.out.size; omega
      have hev := hide (fun W => l5Event_any e (HW.out e (List.mem_of_getElem? he)) W)
      have HS := hide (Pl.goodTo_succ Pl.evB l i e he)
      have HNO : Hid ((Pl.evB e && Pl.nextB (l.take i) e) = false → Pl.histB Pl.evB l = false) := fun hq => by
        unfold Pl.histB
        rw [Pl.goodB_not he hq]; rfl
      have hii : (i : Int) < (l.length : Int) := by omega
      have hic : (i : Int) ≤ (cap : Int) := by omega
      cases hfe : Pl.evB e
      · rw [hfe] at hev HNO
        clear hs he hfe
        go_wp2_with fail
        refine wp_region_noPanic ?_
        refine wp_region_held_drew (S := fun W => Below wr.heap.size wr W) (by kernel_rfl) (below_drew' (Below.refl _ _)) (fun hHeld => ?_)
        refine wpAnyH_take (i := 0) (oi := Oper.mk (some 10) _ _ _ _ _) (v := ?_) rfl (by kernel_rfl) (by kernel_rfl) (by kernel_rfl) (fun _ _ _ h => h) (Or.inl ⟨by rfl, ?_⟩) (by assumption) ?_
        rotate_left
        · intro w0 hSw
          clear hSw
          go_simp
          all_goals (with_reducible rfl)
        simp only [Act.put, List.setIfInBounds_toArray, List.set_cons_zero, List.set_cons_succ]
        refine wpAnyH_take (i := 1) (oi := Oper.mk (some 11) _ _ _ _ _) (v := ?_) rfl (by kernel_rfl) (by kernel_rfl) (by kernel_rfl) (fun _ _ _ h => h) (Or.inl ⟨by rfl, ?_⟩) (by assumption) ?_
        rotate_left
        · intro w0 hSw
          clear hSw
          go_simp
          all_goals (with_reducible rfl)
        simp only [Act.put, List.setIfInBounds_toArray, List.set_cons_zero, List.set_cons_succ]
        refine wpAnyH_take (i := 2) (oi := Oper.mk (some 12) _ _ _ _ _) (v := ?_) rfl (by kernel_rfl) (by kernel_rfl) (by kernel_rfl) (fun _ _ _ h => h) (Or.inl ⟨by rfl, ?_⟩) (by assumption) ?_
        rotate_left
        · intro w0 hSw
          clear hSw
          go_simp
          all_goals (with_reducible rfl)
        simp only [Act.put, List.setIfInBounds_toArray, List.set_cons_zero, List.set_cons_succ]
        refine wpAnyH_take (i := 3) (oi := Oper.mk (some 13) _ _ _ _ _) (v := evV e) rfl (by kernel_rfl) (by kernel_rfl) (by kernel_rfl) (fun _ _ _ h => h) (yieldsIf_load_mid (by rfl) 55 (.tmp 12) rfl g (off + i * 17) rfl (evL e) _ (fun W hW => HAT.out.later hW HGX.out) Try.underlying55 rfl (by rw [infoEv]; rfl)) (by assumption) ?_
        simp only [Act.put, List.setIfInBounds_toArray, List.set_cons_zero, List.set_cons_succ]
        refine wpAnyH_ready (rs := [4]) (by kernel_rfl) (by simp) ?_
        refine AllReadyH.cons (o := Oper.mk (some 14) _ _ _ _ _) rfl (fun K hK => ?_) AllReadyH.nil
        go_simp
        go_at_call 32
        refine (hev.out _).mono ?_
        rintro x0 w0 ⟨rfl, hB0⟩
        have hHeld' := Below.trans hHeld (hB0.mono hHeld.size)
        clear hB0 hHeld
        go_wp2_with fail
        refine hK.out _ _ hHeld' (fun hHeld => ?_)
        clear hK K hHeld'
        (try simp only [Act.put, List.setIfInBounds_toArray, List.set_cons_zero, List.set_cons_succ])
        refine wpAnyH_take (i := 5) (oi := Oper.mk (some 15) _ _ _ _ _) (v := ?_) rfl (by kernel_rfl) (by kernel_rfl) (by kernel_rfl) (fun _ _ _ h => h) (Or.inl ⟨by rfl, ?_⟩) (by assumption) ?_
        rotate_left
        · intro w0 hSw
          clear hSw
          go_simp
          all_goals (with_reducible rfl)
        simp only [Act.put, List.setIfInBounds_toArray, List.set_cons_zero, List.set_cons_succ]
        refine wpAnyH_take (i := 6) (oi := Oper.mk (some 16) _ _ _ _ _) (v := ?_) rfl (by kernel_rfl) (by kernel_rfl) (by kernel_rfl) (fun _ _ _ h => h) (Or.inl ⟨by rfl, ?_⟩) (by assumption) ?_
        rotate_left
        · intro w0 hSw
          clear hSw
          go_simp
          all_goals (with_reducible rfl)
        simp only [Act.put, List.setIfInBounds_toArray, List.set_cons_zero, List.set_cons_succ]
        refine wpAnyH_take (i := 7) (oi := Oper.mk (some 17) _ _ _ _ _) (v := undef) rfl (by kernel_rfl) (by kernel_rfl) (by kernel_rfl) (fun _ _ _ h => h) (Or.inr ⟨by rfl, rfl⟩) (by assumption) ?_
        simp only [Act.put, List.setIfInBounds_toArray, List.set_cons_zero, List.set_cons_succ]
        refine wpAnyH_take (i := 8) (oi := Oper.mk (some 18) _ _ _ _ _) (v := undef) rfl (by kernel_rfl) (by kernel_rfl) (by kernel_rfl) (fun _ _ _ h => h) (Or.inr ⟨by rfl, rfl⟩) (by assumption) ?_
        simp only [Act.put, List.setIfInBounds_toArray, List.set_cons_zero, List.set_cons_succ]
        refine wpAnyH_take (i := 9) (oi := Oper.mk (some 19) _ _ _ _ _) (v := undef) rfl (by kernel_rfl) (by kernel_rfl) (by kernel_rfl) (fun _ _ _ h => h) (Or.inr ⟨by rfl, rfl⟩) (by assumption) ?_
        simp only [Act.put, List.setIfInBounds_toArray, List.set_cons_zero, List.set_cons_succ]
        refine wpAnyH_take (i := 10) (oi := Oper.mk (some 20) _ _ _ _ _) (v := undef) rfl (by kernel_rfl) (by kernel_rfl) (by kernel_rfl) (fun _ _ _ h => h) (Or.inr ⟨by rfl, rfl⟩) (by assumption) ?_
        simp only [Act.put, List.setIfInBounds_toArray, List.set_cons_zero, List.set_cons_succ]
        refine wpAnyH_take (i := 11) (oi := Oper.mk (some 21) _ _ _ _ _) (v := undef) rfl (by kernel_rfl) (by kernel_rfl) (by kernel_rfl) (fun _ _ _ h => h) (Or.inr ⟨by rfl, rfl⟩) (by assumption) ?_
        simp only [Act.put, List.setIfInBounds_toArray, List.set_cons_zero, List.set_cons_succ]
        refine wpAnyH_take (i := 12) (oi := Oper.mk (some 22) _ _ _ _ _) (v := undef) rfl (by kernel_rfl) (by kernel_rfl) (by kernel_rfl) (fun _ _ _ h => h) (Or.inr ⟨by rfl, rfl⟩) (by assumption) ?_
        simp only [Act.put, List.setIfInBounds_toArray, List.set_cons_zero, List.set_cons_succ]
        refine wpAnyH_take (i := 13) (oi := Oper.mk (some 23) _ _ _ _ _) (v := undef) rfl (by kernel_rfl) (by kernel_rfl) (by kernel_rfl) (fun _ _ _ h => h) (Or.inr ⟨by rfl, rfl⟩) (by assumption) ?_
        simp only [Act.put, List.setIfInBounds_toArray, List.set_cons_zero, List.set_cons_succ]
        refine wpAnyH_take (i := 14) (oi := Oper.mk (some 24) _ _ _ _ _) (v := undef) rfl (by kernel_rfl) (by kernel_rfl) (by kernel_rfl) (fun _ _ _ h => h) (Or.inr ⟨by rfl, rfl⟩) (by assumption) ?_
        simp only [Act.put, List.setIfInBounds_toArray, List.set_cons_zero, List.set_cons_succ]
        refine wpAnyH_take (i := 15) (oi := Oper.mk (some 25) _ _ _ _ _) (v := undef) rfl (by kernel_rfl) (by kernel_rfl) (by kernel_rfl) (fun _ _ _ h => h) (Or.inr ⟨by rfl, rfl⟩) (by assumption) ?_
        simp only [Act.put, List.setIfInBounds_toArray, List.set_cons_zero, List.set_cons_succ]
        refine wpAnyH_take (i := 16) (oi := Oper.mk (some 26) _ _ _ _ _) (v := ?_) rfl (by kernel_rfl) (by kernel_rfl) (by kernel_rfl) (fun _ _ _ h => h) (Or.inl ⟨by rfl, ?_⟩) (by assumption) ?_
        rotate_left
        · intro w0 hSw
          clear hSw
          go_simp
          all_goals (with_reducible rfl)
        simp only [Act.put, List.setIfInBounds_toArray, List.set_cons_zero, List.set_cons_succ]
        refine wpAnyH_done (by kernel_rfl) ?_ _
        refine NoPanic.normal ?_
        have HE : Hid (Pl.histB Pl.evB l = false) := HNO.out rfl
        go_wp2_with fail
        go_ret
        exact ⟨by rw [HE.out]; rfl, HB.out.trans (hHeld.mono HB.out.size)⟩
      · have HTK : Hid (∀ W, Below w.heap.size w W → EvRow W (l.take i) (.slice (some ⟨g, off, none⟩) i cap)) := fun W hW => (HRW.out.later hW).take hi
        have hnx := hide (fun W hW => l5Next_any (l.take i) (good_many HG.out hi) (by rw [List.length_take]; omega) (.slice (some ⟨g, off, none⟩) i cap) e (fun h2 => (evB_fit e hfe).1 h2) W hW)
        rw [hfe] at hev HNO
        have HGN : Hid (Pl.nextB (l.take i) e = true → Pl.goodTo Pl.evB l (i + 1) = true) := fun hq => by rw [HS.out, HG.out, hfe, hq]; rfl
        clear hs he hfe
        generalize Pl.nextB (l.take i) e = nb at *
        cases nb
        · go_wp2_with fail
          refine wp_region_noPanic ?_
          refine wp_region_held_drew (S := fun W => Below wr.heap.size wr W) (by kernel_rfl) (below_drew' (Below.refl _ _)) (fun hHeld => ?_)
          refine wpAnyH_take (i := 0) (oi := Oper.mk (some 10) _ _ _ _ _) (v := ?_) rfl (by kernel_rfl) (by kernel_rfl) (by kernel_rfl) (fun _ _ _ h => h) (Or.inl ⟨by rfl, ?_⟩) (by assumption) ?_
          rotate_left
          · intro w0 hSw
            clear hSw
            go_simp
            all_goals (with_reducible rfl)
          simp only [Act.put, List.setIfInBounds_toArray, List.set_cons_zero, List.set_cons_succ]
          refine wpAnyH_take (i := 1) (oi := Oper.mk (some 11) _ _ _ _ _) (v := ?_) rfl (by kernel_rfl) (by kernel_rfl) (by kernel_rfl) (fun _ _ _ h => h) (Or.inl ⟨by rfl, ?_⟩) (by assumption) ?_
          rotate_left
          · intro w0 hSw
            clear hSw
            go_simp
            all_goals (with_reducible rfl)
          simp only [Act.put, List.setIfInBounds_toArray, List.set_cons_zero, List.set_cons_succ]
          refine wpAnyH_take (i := 2) (oi := Oper.mk (some 12) _ _ _ _ _) (v := ?_) rfl (by kernel_rfl) (by kernel_rfl) (by kernel_rfl) (fun _ _ _ h => h) (Or.inl ⟨by rfl, ?_⟩) (by assumption) ?_
          rotate_left
          · intro w0 hSw
            clear hSw
            go_simp
            all_goals (with_reducible rfl)
          simp only [Act.put, List.setIfInBounds_toArray, List.set_cons_zero, List.set_cons_succ]
          refine wpAnyH_take (i := 3) (oi := Oper.mk (some 13) _ _ _ _ _) (v := evV e) rfl (by kernel_rfl) (by kernel_rfl) (by kernel_rfl) (fun _ _ _ h => h) (yieldsIf_load_mid (by rfl) 55 (.tmp 12) rfl g (off + i * 17) rfl (evL e) _ (fun W hW => HAT.out.later hW HGX.out) Try.underlying55 rfl (by rw [infoEv]; rfl)) (by assumption) ?_
          simp only [Act.put, List.setIfInBounds_toArray, List.set_cons_zero, List.set_cons_succ]
          refine wpAnyH_ready (rs := [4]) (by kernel_rfl) (by simp) ?_
          refine AllReadyH.cons (o := Oper.mk (some 14) _ _ _ _ _) rfl (fun K hK => ?_) AllReadyH.nil
          go_simp
          go_at_call 32
          refine (hev.out _).mono ?_
          rintro x0 w0 ⟨rfl, hB0⟩
          have hHeld' := Below.trans hHeld (hB0.mono hHeld.size)
          clear hB0 hHeld
          go_wp2_with fail
          refine hK.out _ _ hHeld' (fun hHeld => ?_)
          clear hK K hHeld'
          (try simp only [Act.put, List.setIfInBounds_toArray, List.set_cons_zero, List.set_cons_succ])
          refine wpAnyH_take (i := 5) (oi := Oper.mk (some 15) _ _ _ _ _) (v := ?_) rfl (by kernel_rfl) (by kernel_rfl) (by kernel_rfl) (fun _ _ _ h => h) (Or.inl ⟨by rfl, ?_⟩) (by assumption) ?_
          rotate_left
          · intro w0 hSw
            clear hSw
            go_simp
            all_goals (with_reducible rfl)
          simp only [Act.put, List.setIfInBounds_toArray, List.set_cons_zero, List.set_cons_succ]
          refine wpAnyH_take (i := 6) (oi := Oper.mk (some 16) _ _ _ _ _) (v := ?_) rfl (by kernel_rfl) (by kernel_rfl) (by kernel_rfl) (fun _ _ _ h => h) (Or.inl ⟨by rfl, ?_⟩) (by assumption) ?_
          rotate_left
          · intro w0 hSw
            clear hSw
            go_simp
            all_goals (with_reducible rfl)
          simp only [Act.put, List.setIfInBounds_toArray, List.set_cons_zero, List.set_cons_succ]
          refine wpAnyH_take (i := 7) (oi := Oper.mk (some 17) _ _ _ _ _) (v := ?_) rfl (by kernel_rfl) (by kernel_rfl) (by kernel_rfl) (fun _ _ _ h => h) (Or.inl ⟨by rfl, ?_⟩) (by assumption) ?_
          rotate_left
          · intro w0 hSw
            clear hSw
            go_simp
            all_goals (with_reducible rfl)
          simp only [Act.put, List.setIfInBounds_toArray, List.set_cons_zero, List.set_cons_succ]
          refine wpAnyH_take (i := 8) (oi := Oper.mk (some 18) _ _ _ _ _) (v := ?_) rfl (by kernel_rfl) (by kernel_rfl) (by kernel_rfl) (fun _ _ _ h => h) (Or.inl ⟨by rfl, ?_⟩) (by assumption) ?_
          rotate_left
          · intro w0 hSw
            clear hSw
            go_simp
            all_goals (with_reducible rfl)
          simp only [Act.put, List.setIfInBounds_toArray, List.set_cons_zero, List.set_cons_succ]
          refine wpAnyH_take (i := 9) (oi := Oper.mk (some 19) _ _ _ _ _) (v := ?_) rfl (by kernel_rfl) (by kernel_rfl) (by kernel_rfl) (fun _ _ _ h => h) (Or.inl ⟨by rfl, ?_⟩) (by assumption) ?_
          rotate_left
          · intro w0 hSw
            clear hSw
            go_simp
            all_goals (with_reducible rfl)
          simp only [Act.put, List.setIfInBounds_toArray, List.set_cons_zero, List.set_cons_succ]
          refine wpAnyH_take (i := 10) (oi := Oper.mk (some 20) _ _ _ _ _) (v := ?_) rfl (by kernel_rfl) (by kernel_rfl) (by kernel_rfl) (fun _ _ _ h => h) (Or.inl ⟨by rfl, ?_⟩) (by assumption) ?_
          rotate_left
          · intro w0 hSw
            clear hSw
            go_simp
            all_goals (with_reducible rfl)
          simp only [Act.put, List.setIfInBounds_toArray, List.set_cons_zero, List.set_cons_succ]
          refine wpAnyH_take (i := 11) (oi := Oper.mk (some 21) _ _ _ _ _) (v := ?_) rfl (by kernel_rfl) (by kernel_rfl) (by kernel_rfl) (fun _ _ _ h => h) (Or.inl ⟨by rfl, ?_⟩) (by assumption) ?_
          rotate_left
          · intro w0 hSw
            clear hSw
            go_simp
            all_goals (with_reducible rfl)
          simp only [Act.put, List.setIfInBounds_toArray, List.set_cons_zero, List.set_cons_succ]
          refine wpAnyH_take (i := 12) (oi := Oper.mk (some 22) _ _ _ _ _) (v := ?_) rfl (by kernel_rfl) (by kernel_rfl) (by kernel_rfl) (fun _ _ _ h => h) (Or.inl ⟨by rfl, ?_⟩) (by assumption) ?_
          rotate_left
          · intro w0 hSw
            clear hSw
            go_simp
            all_goals (with_reducible rfl)
          simp only [Act.put, List.setIfInBounds_toArray, List.set_cons_zero, List.set_cons_succ]
          refine wpAnyH_take (i := 13) (oi := Oper.mk (some 23) _ _ _ _ _) (v := evV e) rfl (by kernel_rfl) (by kernel_rfl) (by kernel_rfl) (fun _ _ _ h => h) (yieldsIf_load_mid (by rfl) 55 (.tmp 22) rfl g (off + i * 17) rfl (evL e) _ (fun W hW => HAT.out.later hW HGX.out) Try.underlying55 rfl (by rw [infoEv]; rfl)) (by assumption) ?_
          simp only [Act.put, List.setIfInBounds_toArray, List.set_cons_zero, List.set_cons_succ]
          refine wpAnyH_ready (rs := [14]) (by kernel_rfl) (by simp) ?_
          refine AllReadyH.cons (o := Oper.mk (some 24) _ _ _ _ _) rfl (fun K hK => ?_) AllReadyH.nil
          go_simp
          go_at_call 33
          refine (hnx.out _ (HTK.out _ (HB.out.trans (hHeld.mono HB.out.size)))).mono ?_
          rintro x0 w0 ⟨rfl, hB0⟩
          have hHeld' := Below.trans hHeld (hB0.mono hHeld.size)
          clear hB0 hHeld
          go_wp2_with fail
          refine hK.out _ _ hHeld' (fun hHeld => ?_)
          clear hK K hHeld'
          (try simp only [Act.put, List.setIfInBounds_toArray, List.set_cons_zero, List.set_cons_succ])
          refine wpAnyH_take (i := 15) (oi := Oper.mk (some 25) _ _ _ _ _) (v := ?_) rfl (by kernel_rfl) (by kernel_rfl) (by kernel_rfl) (fun _ _ _ h => h) (Or.inl ⟨by rfl, ?_⟩) (by assumption) ?_
          rotate_left
          · intro w0 hSw
            clear hSw
            go_simp
            all_goals (with_reducible rfl)
          simp only [Act.put, List.setIfInBounds_toArray, List.set_cons_zero, List.set_cons_succ]
          refine wpAnyH_take (i := 16) (oi := Oper.mk (some 26) _ _ _ _ _) (v := ?_) rfl (by kernel_rfl) (by kernel_rfl) (by kernel_rfl) (fun _ _ _ h => h) (Or.inl ⟨by rfl, ?_⟩) (by assumption) ?_
          rotate_left
          · intro w0 hSw
            clear hSw
            go_simp
            all_goals (with_reducible rfl)
          simp only [Act.put, List.setIfInBounds_toArray, List.set_cons_zero, List.set_cons_succ]
          refine wpAnyH_done (by kernel_rfl) ?_ _
          refine NoPanic.normal ?_
          have HE : Hid (Pl.histB Pl.evB l = false) := HNO.out rfl
          go_wp2_with fail
          go_ret
          exact ⟨by rw [HE.out]; rfl, HB.out.trans (hHeld.mono HB.out.size)⟩
        · go_wp2_with fail
          refine wp_region_noPanic ?_
          refine wp_region_held_drew (S := fun W => Below wr.heap.size wr W) (by kernel_rfl) (below_drew' (Below.refl _ _)) (fun hHeld => ?_)
          refine wpAnyH_take (i := 0) (oi := Oper.mk (some 10) _ _ _ _ _) (v := ?_) rfl (by kernel_rfl) (by kernel_rfl) (by kernel_rfl) (fun _ _ _ h => h) (Or.inl ⟨by rfl, ?_⟩) (by assumption) ?_
          rotate_left
          · intro w0 hSw
            clear hSw
            go_simp
            all_goals (with_reducible rfl)
          simp only [Act.put, List.setIfInBounds_toArray, List.set_cons_zero, List.set_cons_succ]
          refine wpAnyH_take (i := 1) (oi := Oper.mk (some 11) _ _ _ _ _) (v := ?_) rfl (by kernel_rfl) (by kernel_rfl) (by kernel_rfl) (fun _ _ _ h => h) (Or.inl ⟨by rfl, ?_⟩) (by assumption) ?_
          rotate_left
          · intro w0 hSw
            clear hSw
            go_simp
            all_goals (with_reducible rfl)
          simp only [Act.put, List.setIfInBounds_toArray, List.set_cons_zero, List.set_cons_succ]
          refine wpAnyH_take (i := 2) (oi := Oper.mk (some 12) _ _ _ _ _) (v := ?_) rfl (by kernel_rfl) (by kernel_rfl) (by kernel_rfl) (fun _ _ _ h => h) (Or.inl ⟨by rfl, ?_⟩) (by assumption) ?_
          rotate_left
          · intro w0 hSw
            clear hSw
            go_simp
            all_goals (with_reducible rfl)
          simp only [Act.put, List.setIfInBounds_toArray, List.set_cons_zero, List.set_cons_succ]
          refine wpAnyH_take (i := 3) (oi := Oper.mk (some 13) _ _ _ _ _) (v := evV e) rfl (by kernel_rfl) (by kernel_rfl) (by kernel_rfl) (fun _ _ _ h => h) (yieldsIf_load_mid (by rfl) 55 (.tmp 12) rfl g (off + i * 17) rfl (evL e) _ (fun W hW => HAT.out.later hW HGX.out) Try.underlying55 rfl (by rw [infoEv]; rfl)) (by assumption) ?_
          simp only [Act.put, List.setIfInBounds_toArray, List.set_cons_zero, List.set_cons_succ]
          refine wpAnyH_ready (rs := [4]) (by kernel_rfl) (by simp) ?_
          refine AllReadyH.cons (o := Oper.mk (some 14) _ _ _ _ _) rfl (fun K hK => ?_) AllReadyH.nil
          go_simp
          go_at_call 32
          refine (hev.out _).mono ?_
          rintro x0 w0 ⟨rfl, hB0⟩
          have hHeld' := Below.trans hHeld (hB0.mono hHeld.size)
          clear hB0 hHeld
          go_wp2_with fail
          refine hK.out _ _ hHeld' (fun hHeld => ?_)
          clear hK K hHeld'
          (try simp only [Act.put, List.setIfInBounds_toArray, List.set_cons_zero, List.set_cons_succ])
          refine wpAnyH_take (i := 5) (oi := Oper.mk (some 15) _ _ _ _ _) (v := ?_) rfl (by kernel_rfl) (by kernel_rfl) (by kernel_rfl) (fun _ _ _ h => h) (Or.inl ⟨by rfl, ?_⟩) (by assumption) ?_
          rotate_left
          · intro w0 hSw
            clear hSw
            go_simp
            all_goals (with_reducible rfl)
          simp only [Act.put, List.setIfInBounds_toArray, List.set_cons_zero, List.set_cons_succ]
          refine wpAnyH_take (i := 6) (oi := Oper.mk (some 16) _ _ _ _ _) (v := ?_) rfl (by kernel_rfl) (by kernel_rfl) (by kernel_rfl) (fun _ _ _ h => h) (Or.inl ⟨by rfl, ?_⟩) (by assumption) ?_
          rotate_left
          · intro w0 hSw
            clear hSw
            go_simp
            all_goals (with_reducible rfl)
          simp only [Act.put, List.setIfInBounds_toArray, List.set_cons_zero, List.set_cons_succ]
          refine wpAnyH_take (i := 7) (oi := Oper.mk (some 17) _ _ _ _ _) (v := ?_) rfl (by kernel_rfl) (by kernel_rfl) (by kernel_rfl) (fun _ _ _ h => h) (Or.inl ⟨by rfl, ?_⟩) (by assumption) ?_
          rotate_left
          · intro w0 hSw
            clear hSw
            go_simp
            all_goals (with_reducible rfl)
          simp only [Act.put, List.setIfInBounds_toArray, List.set_cons_zero, List.set_cons_succ]
          refine wpAnyH_take (i := 8) (oi := Oper.mk (some 18) _ _ _ _ _) (v := ?_) rfl (by kernel_rfl) (by kernel_rfl) (by kernel_rfl) (fun _ _ _ h => h) (Or.inl ⟨by rfl, ?_⟩) (by assumption) ?_
          rotate_left
          · intro w0 hSw
            clear hSw
            go_simp
            all_goals (with_reducible rfl)
          simp only [Act.put, List.setIfInBounds_toArray, List.set_cons_zero, List.set_cons_succ]
          refine wpAnyH_take (i := 9) (oi := Oper.mk (some 19) _ _ _ _ _) (v := ?_) rfl (by kernel_rfl) (by kernel_rfl) (by kernel_rfl) (fun _ _ _ h => h) (Or.inl ⟨by rfl, ?_⟩) (by assumption) ?_
          rotate_left
          · intro w0 hSw
            clear hSw
            go_simp
            all_goals (with_reducible rfl)
          simp only [Act.put, List.setIfInBounds_toArray, List.set_cons_zero, List.set_cons_succ]
          refine wpAnyH_take (i := 10) (oi := Oper.mk (some 20) _ _ _ _ _) (v := ?_) rfl (by kernel_rfl) (by kernel_rfl) (by kernel_rfl) (fun _ _ _ h => h) (Or.inl ⟨by rfl, ?_⟩) (by assumption) ?_
          rotate_left
          · intro w0 hSw
            clear hSw
            go_simp
            all_goals (with_reducible rfl)
          simp only [Act.put, List.setIfInBounds_toArray, List.set_cons_zero, List.set_cons_succ]
          refine wpAnyH_take (i := 11) (oi := Oper.mk (some 21) _ _ _ _ _) (v := ?_) rfl (by kernel_rfl) (by kernel_rfl) (by kernel_rfl) (fun _ _ _ h => h) (Or.inl ⟨by rfl, ?_⟩) (by assumption) ?_
          rotate_left
          · intro w0 hSw
            clear hSw
            go_simp
            all_goals (with_reducible rfl)
          simp only [Act.put, List.setIfInBounds_toArray, List.set_cons_zero, List.set_cons_succ]
          refine wpAnyH_take (i := 12) (oi := Oper.mk (some 22) _ _ _ _ _) (v := ?_) rfl (by kernel_rfl) (by kernel_rfl) (by kernel_rfl) (fun _ _ _ h => h) (Or.inl ⟨by rfl, ?_⟩) (by assumption) ?_
          rotate_left
          · intro w0 hSw
            clear hSw
            go_simp
            all_goals (with_reducible rfl)
          simp only [Act.put, List.setIfInBounds_toArray, List.set_cons_zero, List.set_cons_succ]
          refine wpAnyH_take (i := 13) (oi := Oper.mk (some 23) _ _ _ _ _) (v := evV e) rfl (by kernel_rfl) (by kernel_rfl) (by kernel_rfl) (fun _ _ _ h => h) (yieldsIf_load_mid (by rfl) 55 (.tmp 22) rfl g (off + i * 17) rfl (evL e) _ (fun W hW => HAT.out.later hW HGX.out) Try.underlying55 rfl (by rw [infoEv]; rfl)) (by assumption) ?_
          simp only [Act.put, List.setIfInBounds_toArray, List.set_cons_zero, List.set_cons_succ]
          refine wpAnyH_ready (rs := [14]) (by kernel_rfl) (by simp) ?_
          refine AllReadyH.cons (o := Oper.mk (some 24) _ _ _ _ _) rfl (fun K hK => ?_) AllReadyH.nil
          go_simp
          go_at_call 33
          refine (hnx.out _ (HTK.out _ (HB.out.trans (hHeld.mono HB.out.size)))).mono ?_
          rintro x0 w0 ⟨rfl, hB0⟩
          have hHeld' := Below.trans hHeld (hB0.mono hHeld.size)
          clear hB0 hHeld
          go_wp2_with fail
          refine hK.out _ _ hHeld' (fun hHeld => ?_)
          clear hK K hHeld'
          (try simp only [Act.put, List.setIfInBounds_toArray, List.set_cons_zero, List.set_cons_succ])
          refine wpAnyH_take (i := 15) (oi := Oper.mk (some 25) _ _ _ _ _) (v := ?_) rfl (by kernel_rfl) (by kernel_rfl) (by kernel_rfl) (fun _ _ _ h => h) (Or.inl ⟨by rfl, ?_⟩) (by assumption) ?_
          rotate_left
          · intro w0 hSw
            clear hSw
            go_simp
            all_goals (with_reducible rfl)
          simp only [Act.put, List.setIfInBounds_toArray, List.set_cons_zero, List.set_cons_succ]
          refine wpAnyH_take (i := 16) (oi := Oper.mk (some 26) _ _ _ _ _) (v := ?_) rfl (by kernel_rfl) (by kernel_rfl) (by kernel_rfl) (fun _ _ _ h => h) (Or.inl ⟨by rfl, ?_⟩) (by assumption) ?_
          rotate_left
          · intro w0 hSw
            clear hSw
            go_simp
            all_goals (with_reducible rfl)
          simp only [Act.put, List.setIfInBounds_toArray, List.set_cons_zero, List.set_cons_succ]
          refine wpAnyH_done (by kernel_rfl) ?_ _
          refine NoPanic.normal ?_
          have HB2 := hide (HB.out.trans (hHeld.mono HB.out.size))
          have HGI := hide (HGN.out (by first | trivial | rfl))
          clear hHeld
          go_wp2_with fail
          go_roundw
          case rel => exact ⟨i + 1, by omega, by go_num, HGI, HB2⟩
          case measure => simp [intOf]; omega
    · have hie : i = l.length := by omega
      have hgb : Pl.goodB Pl.evB l = true := by have := HG.out; rw [hie] at this; exact this
      have hM : ManyOk l := by
        have := good_many HG.out hi
        rw [hie, List.take_length] at this
        exact this
      have hleft := hide (fun W hW => l5Left_any l hM hN (.slice ad l.length cap) W hW)
      have hin := hide (fun W => in_any (l.length : Int) 1 200 W)
      have HE : Hid (Pl.histB Pl.evB l = ((decide (1 ≤ (l.length : Int)) && decide ((l.length : Int) ≤ 200)) && (Pl.leftOf l == 0))) := by show _ = _; unfold Pl.histB; rw [hgb]; rfl
      clear hgb hM hie
      generalize Pl.leftOf l = lf at *
      generalize (decide (1 ≤ (l.length : Int)) && decide ((l.length : Int) ≤ 200)) = rb at *
      go_wp2_with fail
      refine (hin.out _).mono ?_
      rintro x1 w1 ⟨rfl, rfl⟩
      cases rb
      · go_wp2_with fail
        go_ret
        exact ⟨by rw [HE.out]; rfl, HB.out⟩
      · go_wp2_with fail
        refine (hleft.out _ (HRW.out.later HB.out)).mono ?_
        rintro x2 w2 ⟨rfl, rfl⟩
        go_wp2_with fail
        go_ret
        exact ⟨by rw [HE.out]; first | rfl | simp, HB.out⟩
set_option maxHeartbeats 800000 in
theorem specHistOpen_any (l : List Ev) (hwf : ∀ e ∈ l, e.Wf) (hN : l.length ≤ 1048576) (v : Value) (w : World) (hr : EvRow w l v) :
    Calls Try.prog 14 #[v] w fun x w' => x = .returned (.bool (Pl.histB Pl.evB l && Pl.openB l)) ∧ Below w.heap.size w w' := by
  have HRW := hide hr
  have hh := hide (specHistOk_any l hwf hN v w hr)
  obtain ⟨ad, cap, rfl, hc, hmx, hx⟩ := hr
  clear hx
  have ho := hide (fun W hW => l5Open_any l hN (.slice ad l.length cap) W hW)
  generalize Pl.histB Pl.evB l = hb at *
  generalize Pl.openB l = ob at *
  cases hb
  · go_enter Try.func14, Try.ntmps14
    go_wp2_with fail
    refine hh.out.mono ?_
    rintro x1 X1 ⟨rfl, hB1⟩
    have HB1 := hide hB1
    clear hB1
    go_wp2_with fail
    go_ret
    exact ⟨rfl, HB1.out⟩
  · go_enter Try.func14, Try.ntmps14
    go_wp2_with fail
    refine hh.out.mono ?_
    rintro x1 X1 ⟨rfl, hB1⟩
    have HB1 := hide hB1
    clear hB1
    go_wp2_with fail
    refine (ho.out _ (HRW.out.later HB1.out)).mono ?_
    rintro x2 X2 ⟨rfl, hB2⟩
    have HB2 := hide (HB1.out.trans (hB2.mono HB1.out.size))
    clear hB2
    go_wp2_with fail
    go_ret
    exact ⟨by first | rfl | simp, HB2.out⟩
set_option maxHeartbeats 800000 in
theorem specHistNews_any (l : List Ev) (hwf : ∀ e ∈ l, e.Wf) (hN : l.length ≤ 1048576) (v : Value) (w : World) (hr : EvRow w l v) :
    Calls Try.prog 16 #[v] w fun x w' => x = .returned (.bool ((Pl.histB Pl.evB l && Pl.openB l) && Pl.newsOf l)) ∧ Below w.heap.size w w' := by
  have HRW := hide hr
  have hh := hide (specHistOpen_any l hwf hN v w hr)
  obtain ⟨ad, cap, rfl, hc, hmx, hx⟩ := hr
  clear hx
  have ho := hide (fun W hW => l5News_any l hN (.slice ad l.length cap) W hW)
  generalize (Pl.histB Pl.evB l && Pl.openB l) = hb at *
  generalize Pl.newsOf l = ob at *
  cases hb
  · go_enter Try.func16, Try.ntmps16
    go_wp2_with fail
    refine hh.out.mono ?_
    rintro x1 X1 ⟨rfl, hB1⟩
    have HB1 := hide hB1
    clear hB1
    go_wp2_with fail
    go_ret
    exact ⟨rfl, HB1.out⟩
  · go_enter Try.func16, Try.ntmps16
    go_wp2_with fail
    refine hh.out.mono ?_
    rintro x1 X1 ⟨rfl, hB1⟩
    have HB1 := hide hB1
    clear hB1
    go_wp2_with fail
    refine (ho.out _ (HRW.out.later HB1.out)).mono ?_
    rintro x2 X2 ⟨rfl, rfl⟩
    go_wp2_with fail
    go_ret
    exact ⟨by first | rfl | simp, HB1.out⟩
set_option maxHeartbeats 800000 in
theorem specHistTasks_any (l : List Ev) (hwf : ∀ e ∈ l, e.Wf) (hN : l.length ≤ 1048576) (v : Value) (w : World) (hr : EvRow w l v) :
    Calls Try.prog 18 #[v] w fun x w' => x = .returned (.int .i64 (if Pl.histB Pl.evB l = true then ((Pl.tasksOf l : Nat) : Int) else 0)) ∧ Below w.heap.size w w' := by
  have HRW := hide hr
  have hh := hide (specHistOk_any l hwf hN v w hr)
  obtain ⟨ad, cap, rfl, hc, hmx, hx⟩ := hr
  clear hx
  have ho := hide (fun W hW => l5Tasks_any l hN (.slice ad l.length cap) W hW)
  generalize Pl.histB Pl.evB l = hb at *
  generalize Pl.tasksOf l = tk at *
  cases hb
  · go_enter Try.func18, Try.ntmps18
    go_wp2_with fail
    refine hh.out.mono ?_
    rintro x1 X1 ⟨rfl, hB1⟩
    have HB1 := hide hB1
    clear hB1
    go_wp2_with fail
    go_ret
    exact ⟨by first | rfl | simp, HB1.out⟩
  · go_enter Try.func18, Try.ntmps18
    go_wp2_with fail
    refine hh.out.mono ?_
    rintro x1 X1 ⟨rfl, hB1⟩
    have HB1 := hide hB1
    clear hB1
    go_wp2_with fail
    refine (ho.out _ (HRW.out.later HB1.out)).mono ?_
    rintro x2 X2 ⟨rfl, rfl⟩
    go_wp2_with fail
    go_ret
    exact ⟨by first | rfl | simp, HB1.out⟩
end Go.Proofs.Ytobeecopkfgplaa

/- What was asked for, or what came, gathered by the program and by the specification. -/
namespace Go.Proofs.Ytobeecopkfgplaa
open Go.RowKit
set_option linter.unusedVariables false
set_option linter.unusedSimpArgs false
theorem empty_size {t : ByteArray} (h : t.toList.isEmpty = true) : t.size ≤ 2000000 := by
  have h1 : t.toList = [] := by simpa using h
  rw [ByteArray.toList_eq] at h1
  have h2 : t.data.toList.length = t.size := by simp
  rw [h1] at h2
  simp at h2
  omega
theorem okB_size {k n : Int} {t : ByteArray} (h : Pl.okB k n t = true) : t.size ≤ 2000000 := by
  unfold Pl.okB at h
  split at h
  · simp only [Bool.and_eq_true] at h; exact empty_size h.2
  · split at h
    · simp only [Bool.and_eq_true] at h; exact empty_size h.2
    · split at h
      · simp only [Bool.and_eq_true, Pl.textB] at h
        have := h.2
        simp at this
        omega
      · cases h
theorem noVal_size {k n : Int} {t : ByteArray} (h : Pl.noVal k n t = true) : t.size ≤ 2000000 := by
  simp only [Pl.noVal, Bool.and_eq_true] at h
  exact empty_size h.2.2
theorem nameB_size {s : ByteArray} (h : Pl.nameB s = true) : s.size ≤ 2000000 := by
  simp only [Pl.nameB, Bool.and_eq_true, decide_eq_true_eq] at h
  omega
theorem cmdB_size {k : Int} {nm : ByteArray} {vk vn : Int} {vt : ByteArray} (h : Pl.cmdB k nm vk vn vt = true) : nm.size ≤ 2000000 ∧ vt.size ≤ 2000000 := by
  unfold Pl.cmdB at h
  split at h
  · simp only [Bool.and_eq_true] at h; exact ⟨nameB_size h.1, okB_size h.2⟩
  · split at h
    · simp only [Bool.and_eq_true] at h; exact ⟨empty_size h.1, okB_size h.2.2.2⟩
    · split at h
      · simp only [Bool.and_eq_true] at h; exact ⟨empty_size h.1, okB_size h.2⟩
      · cases h
theorem cameB_size {k p : Int} {nm : ByteArray} {o : Bool} {vk vn : Int} {vt : ByteArray} (h : Pl.cameB k p nm o vk vn vt = true) : nm.size ≤ 2000000 ∧ vt.size ≤ 2000000 := by
  unfold Pl.cameB at h
  split at h
  · simp only [Bool.and_eq_true] at h; exact ⟨empty_size h.2.1, okB_size h.2.2.1⟩
  · split at h
    · simp only [Bool.and_eq_true] at h; exact ⟨empty_size h.2.1, noVal_size h.2.2.2⟩
    · split at h
      · simp only [Bool.and_eq_true] at h; exact ⟨nameB_size h.2.1, okB_size h.2.2.2⟩
      · cases h
theorem noCmd_size {k : Int} {nm : ByteArray} {vk vn : Int} {vt : ByteArray} (h : Pl.noCmd k nm vk vn vt = true) : nm.size ≤ 2000000 ∧ vt.size ≤ 2000000 := by
  simp only [Pl.noCmd, Bool.and_eq_true] at h
  exact ⟨empty_size h.2.1, noVal_size h.2.2⟩
theorem noCame_size {k p : Int} {nm : ByteArray} {o : Bool} {vk vn : Int} {vt : ByteArray} (h : Pl.noCame k p nm o vk vn vt = true) : nm.size ≤ 2000000 ∧ vt.size ≤ 2000000 := by
  simp only [Pl.noCame, Bool.and_eq_true] at h
  exact ⟨empty_size h.2.2.1, noVal_size h.2.2.2.2⟩
theorem evB_small {e : Ev} (h : Pl.evB e = true) : e.Small := by
  unfold Pl.evB at h
  split at h
  · simp only [Bool.and_eq_true] at h
    exact ⟨okB_size h.1, (noCmd_size h.2.2.1).1, (noCmd_size h.2.2.1).2, (noCame_size h.2.2.2).1, (noCame_size h.2.2.2).2⟩
  · split at h
    · simp only [Bool.and_eq_true] at h
      exact ⟨noVal_size h.1, (noCmd_size h.2.2.1).1, (noCmd_size h.2.2.1).2, (noCame_size h.2.2.2).1, (noCame_size h.2.2.2).2⟩
    · split at h
      · simp only [Bool.and_eq_true] at h
        exact ⟨noVal_size h.1, (cmdB_size h.2.2.1).1, (cmdB_size h.2.2.1).2, (noCame_size h.2.2.2).1, (noCame_size h.2.2.2).2⟩
      · split at h
        · simp only [Bool.and_eq_true] at h
          exact ⟨noVal_size h.1, (noCmd_size h.2.2.1).1, (noCmd_size h.2.2.1).2, (cameB_size h.2.2.2).1, (cameB_size h.2.2.2).2⟩
        · split at h
          · simp only [Bool.and_eq_true] at h
            exact ⟨noVal_size h.1, (noCmd_size h.2.2.1).1, (noCmd_size h.2.2.1).2, (noCame_size h.2.2.2).1, (noCame_size h.2.2.2).2⟩
          · cases h
theorem hist_small {l : List Ev} (h : Pl.histB Pl.evB l = true) : ∀ e ∈ l, e.Small := by
  intro e he
  obtain ⟨j, hj⟩ := List.mem_iff_getElem?.1 he
  have hlt := (List.getElem?_eq_some_iff.1 hj).1
  unfold Pl.histB at h
  simp only [Bool.and_eq_true] at h
  have := Pl.goodTo_mono Pl.evB l (show j + 1 ≤ l.length by omega) h.1
  rw [Pl.goodTo_succ Pl.evB l j e hj] at this
  simp only [Bool.and_eq_true] at this
  exact evB_small this.2.1
theorem cloCmds_any (e : Ev) (hsm : e.Small) (A : List Ev) (hA : A.length ≤ 1048576) (all : Value) (base gk gp : Nat) (W : World) (ho : W.ownsRow base 51 5 all (A).length ((A).flatMap cmL)) (hb : base ≤ W.heap.size)
    (hgk : gk < base) (hgp : gp < base) (ck : W.cell? ⟨gk, 0, none⟩ = some (.int .i64 3)) (cp : W.cell? ⟨gp, 0, none⟩ = some partCmdsV) :
    Calls Try.prog 66 #[all, evV e, .pointer (some ⟨gk, 0, none⟩), .pointer (some ⟨gp, 0, none⟩)] W fun x w' => ∃ v', x = .returned (.tuple #[v', .bool true]) ∧ w'.ownsRow base 51 5 v' (if e.k = 3 then A ++ [e] else A).length ((if e.k = 3 then A ++ [e] else A).flatMap cmL) ∧ Below base W w' := by
  by_cases hk : e.k = 3
  · rw [if_pos hk]
    exact gatherCmds e hsm hk A hA all base gk gp W ho hb hgk hgp ck cp
  · rw [if_neg hk]
    refine (passCmds e hk all gk gp W (by omega) ck).mono ?_
    rintro x w' ⟨rfl, hB⟩
    exact ⟨_, rfl, ownsRow_later ho hB, hB.mono hb⟩
set_option maxRecDepth 100000 in
set_option maxHeartbeats 1600000 in
theorem walkCmds_any (l : List Ev) (hsm : ∀ e ∈ l, e.Small) (hN : l.length ≤ 1048576) (v : Value) (gk gp : Nat) (w : World) (hr : EvRow w l v) (hgk : gk < w.heap.size) (hgp : gp < w.heap.size) (ck : w.cell? ⟨gk, 0, none⟩ = some (.int .i64 3)) (cp : w.cell? ⟨gp, 0, none⟩ = some partCmdsV) :
    Calls Try.prog 65 #[v, .slice none 0 0, .func (.func 66) #[] #[.pointer (some ⟨gk, 0, none⟩), .pointer (some ⟨gp, 0, none⟩)]] w fun x w' => ∃ v', x = .returned (.tuple #[v', .bool true]) ∧ w'.ownsRow w.heap.size 51 5 v' (Pl.cmdsOf l).length ((Pl.cmdsOf l).flatMap cmL) ∧ Below w.heap.size w w' := by
  obtain ⟨ad, cap, rfl, hc, hmx, hx⟩ := hr
  unfold maxLen at hmx
  have HX := hide hx
  have HSM := hide hsm
  have HCK := hide ck
  have HCP := hide cp
  have HM : Hid (∀ i, (Pl.cmdsOf (l.take i)).length ≤ l.length) := fun i => by
    unfold Pl.cmdsOf
    refine Nat.le_trans (List.length_filter_le _ _) ?_
    simp [List.length_take]; omega
  clear hx hsm ck cp
  go_enter Try.func65, Try.ntmps65
  go_wp2_with fail
  go_loopw [1, 14] (fun kv iv wr => ∃ i : Nat, i ≤ l.length ∧ iv = .int .i64 i ∧ Hid (wr.ownsRow w.heap.size 51 5 kv (Pl.cmdsOf (l.take i)).length ((Pl.cmdsOf (l.take i)).flatMap cmL)) ∧ Hid (Below w.heap.size w wr)) (fun _ iv _ => l.length - (intOf iv).toNat)
  case atStart => exact ⟨0, by omega, rfl, ⟨by simp [Pl.cmdsOf], .inl ⟨rfl, by simp [Pl.cmdsOf]⟩⟩, Below.refl _ _⟩
  case round =>
    obtain ⟨i, hi, rfl, HO, HB⟩ := hrel
    obtain ⟨av, cv, hav⟩ := ownsRow_form HO.out
    by_cases hlt : i < l.length
    · obtain ⟨g, off, rfl, hg, hs⟩ := HX.out (by omega)
      obtain ⟨e, he⟩ : ∃ e, l[i]? = some e := ⟨_, List.getElem?_eq_getElem hlt⟩
      have HAT := hide ((hs i e he).later HB.out hg)
      have HT := hide (Pl.cmdsOf_take l i e he)
      have HES := hide (HSM.out e (List.mem_of_getElem? he))
      have hAl : (Pl.cmdsOf (l.take i)).length ≤ 1048576 := by have := HM.out i; omega
      have hcall : Hid (∀ o, Calls Try.prog 66 #[.slice av (Pl.cmdsOf (l.take i)).length cv, evV e, .pointer (some ⟨gk, 0, none⟩), .pointer (some ⟨gp, 0, none⟩)] (wr.alloc o) fun x w' => ∃ v', x = .returned (.tuple #[v', .bool true]) ∧ w'.ownsRow w.heap.size 51 5 v' (Pl.cmdsOf (l.take (i + 1))).length ((Pl.cmdsOf (l.take (i + 1))).flatMap cmL) ∧ Below w.heap.size w w') := fun o => by
        have hB0 := HB.out.alloc HB.out.size o
        rw [HT.out]
        refine (cloCmds_any e HES.out _ hAl _ w.heap.size gk gp (wr.alloc o) (by rw [← hav]; exact ownsRow_later HO.out ((Below.refl _ _).alloc (Nat.le_refl _) _)) hB0.size hgk hgp ((hB0.cell (p := ⟨gk, 0, none⟩) hgk).trans HCK.out) ((hB0.cell (p := ⟨gp, 0, none⟩) hgp).trans HCP.out)).mono ?_
        rintro x w' ⟨v', rfl, h1, h2⟩
        exact ⟨v', rfl, h1, hB0.trans h2⟩
      subst hav
      generalize (Pl.cmdsOf (l.take i)).length = n0 at *
      clear hs he HO
      have hii : (i : Int) < (l.length : Int) := by omega
      go_wp2_with (first
        | (with_reducible show wpList _ _ _ (Oper.mk _ (Op.load 55 (.tmp 16)) _ _ _ _ :: _) _ _; refine we_mid rfl (.tmp 16) rfl g (off + i * 17) rfl e HAT.out ?_)
        | (with_reducible show wpList _ _ _ (Oper.mk _ (Op.store 55 _ _) _ _ _ _ :: _) _ _; refine we_store rfl (.tmp 9) (.tmp 17) rfl wr.heap.size rfl _ rfl rfl rfl (evL_ok e) ?_)
        | (with_reducible show wpList _ _ _ (Oper.mk _ (Op.load 55 (.tmp 9)) _ _ _ _ :: _) _ _; refine we_load rfl (.tmp 9) rfl wr.heap.size rfl _ (top1 _ _) (evL_ok e) ?_))
      refine (hcall.out _).mono ?_
      rintro x1 X1 ⟨v1, rfl, ho1, hB1⟩
      have HO1 := hide ho1
      have HB1 := hide hB1
      obtain ⟨a1, c1, hav1⟩ := ownsRow_form ho1
      subst hav1
      clear ho1 hB1 hcall HAT
      go_wp2_with fail
      go_roundw
      case rel => exact ⟨i + 1, by omega, by go_num, HO1, HB1⟩
      case measure => simp [intOf]; omega
    · have hie : i = l.length := by omega
      have HE : Hid (Pl.cmdsOf (l.take i) = Pl.cmdsOf l) := by show _ = _; rw [hie, List.take_length]
      subst hav
      clear hie
      go_wp2_with fail
      go_ret2
      exact ⟨_, rfl, by rw [← HE.out]; exact HO.out, HB.out⟩
/-- what is told of a history alone -/
def Pl.histCmds (l : List Ev) : List Ev := if Pl.histB Pl.evB l = true then Pl.cmdsOf l else []
set_option maxRecDepth 100000 in
set_option maxHeartbeats 1600000 in
theorem implAllCmds_any (l : List Ev) (hwf : ∀ e ∈ l, e.Wf) (hN : l.length ≤ 1048576) (v : Value) (w : World) (hr : EvRow w l v) :
    Calls Try.prog 43 #[v, .int .i64 3, partCmdsV] w fun x w' => ∃ v', x = .returned v' ∧ w'.ownsRow w.heap.size 51 5 v' (Pl.histCmds l).length ((Pl.histCmds l).flatMap cmL) ∧ Below w.heap.size w w' := by
  have HRW := hide hr
  have hok := hide (fun W hW => implHistOk_any l hwf hN v W hW)
  rw [(Pl.past_hist evB_fit l).1] at hok
  have hwk := hide (fun (hsm : ∀ e ∈ l, e.Small) gk gp W hW a b c d => walkCmds_any l hsm hN v gk gp W hW a b c d)
  obtain ⟨ad, cap, rfl, hc, hmx, hx⟩ := hr
  clear hx
  unfold Pl.histCmds
  have HSM := hide (hist_small (l := l))
  cases hh : Pl.histB Pl.evB l
  · rw [hh] at hok
    go_enter Try.func43, Try.ntmps43
    go_wp2_with fail
    refine (hok.out _ (HRW.out.later (((Below.refl _ _).alloc (Nat.le_refl _) _).alloc (by simp) _))).mono ?_
    rintro x1 X1 ⟨rfl, hB1⟩
    obtain ⟨_, _, hB⟩ := two_boxes hB1
    have HB := hide hB
    clear hB1 hB hok hwk
    go_wp2_with fail
    go_ret
    exact ⟨_, rfl, ⟨by simp, .inl ⟨rfl, by simp⟩⟩, HB.out⟩
  · rw [hh] at hok
    have hsm := HSM.out hh
    have hwk2 := hide (hwk.out hsm)
    clear hwk hsm HSM
    go_enter Try.func43, Try.ntmps43
    go_wp2_with fail
    refine (hok.out _ (HRW.out.later (((Below.refl _ _).alloc (Nat.le_refl _) _).alloc (by simp) _))).mono ?_
    rintro x1 X1 ⟨rfl, hB1⟩
    obtain ⟨b0, b1, hB⟩ := two_boxes hB1
    have HB := hide hB
    have L0 := hide ((Array.getElem?_eq_some_iff.1 b0).1)
    have L1 := hide ((Array.getElem?_eq_some_iff.1 b1).1)
    have C0 := hide (cell_of_block b0 0)
    have C1 := hide (cell_of_block b1 0)
    clear hB1 hB hok b0 b1
    go_wp2_with fail
    refine (hwk2.out w.heap.size (w.heap.size + 1) X1 (HRW.out.later HB.out) L0.out L1.out C0.out C1.out).mono ?_
    rintro x2 X2 ⟨v2, rfl, ho2, hB2⟩
    have HO2 := hide (ownsRow_base ho2 HB.out.size)
    have HB2 := hide (HB.out.trans (hB2.mono HB.out.size))
    obtain ⟨a2, c2, hav2⟩ := ownsRow_form ho2
    subst hav2
    clear ho2 hB2 hwk2
    go_wp2_with fail
    go_ret
    exact ⟨_, rfl, HO2.out, HB2.out⟩
set_option maxRecDepth 100000 in
set_option maxHeartbeats 1600000 in
theorem implHistCmds_any (l : List Ev) (hwf : ∀ e ∈ l, e.Wf) (hN : l.length ≤ 1048576) (v : Value) (w : World) (hr : EvRow w l v) :
    Calls Try.prog 21 #[v] w fun x w' => ∃ v', x = .returned v' ∧ w'.ownsRow w.heap.size 51 5 v' (Pl.histCmds l).length ((Pl.histCmds l).flatMap cmL) ∧ Below w.heap.size w w' := by
  have ha := hide (implAllCmds_any l hwf hN v w hr)
  obtain ⟨ad, cap, rfl, hc, hmx, hx⟩ := hr
  clear hx
  go_enter Try.func21, Try.ntmps21
  go_wp2_with fail
  refine ha.out.mono ?_
  rintro x1 X1 ⟨v1, rfl, ho1, hB1⟩
  have HO1 := hide ho1
  have HB1 := hide hB1
  obtain ⟨a1, c1, hav1⟩ := ownsRow_form ho1
  subst hav1
  clear ho1 hB1 ha
  go_wp2_with fail
  go_ret
  exact ⟨_, rfl, HO1.out, HB1.out⟩
set_option maxRecDepth 100000 in
set_option maxHeartbeats 1600000 in
theorem specHistCmds_any (l : List Ev) (hwf : ∀ e ∈ l, e.Wf) (hN : l.length ≤ 1048576) (v : Value) (w : World) (hr : EvRow w l v) :
    Calls Try.prog 20 #[v] w fun x w' => ∃ v', x = .returned v' ∧ w'.ownsRow w.heap.size 51 5 v' (Pl.histCmds l).length ((Pl.histCmds l).flatMap cmL) ∧ Below w.heap.size w w' := by
  have HRW := hide hr
  have hok := hide (specHistOk_any l hwf hN v w hr)
  have hcl := hide (fun W hW => l5Cmds_any l hN v W hW)
  obtain ⟨ad, cap, rfl, hc, hmx, hx⟩ := hr
  clear hx
  unfold Pl.histCmds
  cases hh : Pl.histB Pl.evB l
  · rw [hh] at hok
    go_enter Try.func20, Try.ntmps20
    go_wp2_with fail
    refine hok.out.mono ?_
    rintro x1 X1 ⟨rfl, hB1⟩
    have HB1 := hide hB1
    clear hB1 hok
    go_wp2_with fail
    go_ret
    exact ⟨_, rfl, ownsRow_base (own_start _ _ _ (by decide)) HB1.out.size, below_top HB1.out⟩
  · rw [hh] at hok
    go_enter Try.func20, Try.ntmps20
    go_wp2_with fail
    refine hok.out.mono ?_
    rintro x1 X1 ⟨rfl, hB1⟩
    have HB1 := hide hB1
    clear hB1 hok
    go_wp2_with fail
    refine (hcl.out _ (HRW.out.later HB1.out)).mono ?_
    rintro x2 X2 ⟨v2, rfl, ho2, hB2⟩
    have HO2 := hide (ownsRow_base ho2 HB1.out.size)
    have HB2 := hide (HB1.out.trans (hB2.mono HB1.out.size))
    obtain ⟨a2, c2, hav2⟩ := ownsRow_form ho2
    subst hav2
    clear ho2 hB2
    go_wp2_with fail
    go_ret
    exact ⟨_, rfl, HO2.out, HB2.out⟩
end Go.Proofs.Ytobeecopkfgplaa

/- What was asked for, or what came, gathered by the program and by the specification. -/
namespace Go.Proofs.Ytobeecopkfgplaa
open Go.RowKit
set_option linter.unusedVariables false
set_option linter.unusedSimpArgs false
theorem cloCame_any (e : Ev) (hsm : e.Small) (A : List Ev) (hA : A.length ≤ 1048576) (all : Value) (base gk gp : Nat) (W : World) (ho : W.ownsRow base 53 7 all (A).length ((A).flatMap caL)) (hb : base ≤ W.heap.size)
    (hgk : gk < base) (hgp : gp < base) (ck : W.cell? ⟨gk, 0, none⟩ = some (.int .i64 4)) (cp : W.cell? ⟨gp, 0, none⟩ = some partCameV) :
    Calls Try.prog 69 #[all, evV e, .pointer (some ⟨gk, 0, none⟩), .pointer (some ⟨gp, 0, none⟩)] W fun x w' => ∃ v', x = .returned (.tuple #[v', .bool true]) ∧ w'.ownsRow base 53 7 v' (if e.k = 4 then A ++ [e] else A).length ((if e.k = 4 then A ++ [e] else A).flatMap caL) ∧ Below base W w' := by
  by_cases hk : e.k = 4
  · rw [if_pos hk]
    exact gatherCame e hsm hk A hA all base gk gp W ho hb hgk hgp ck cp
  · rw [if_neg hk]
    refine (passCame e hk all gk gp W (by omega) ck).mono ?_
    rintro x w' ⟨rfl, hB⟩
    exact ⟨_, rfl, ownsRow_later ho hB, hB.mono hb⟩
set_option maxRecDepth 100000 in
set_option maxHeartbeats 1600000 in
theorem walkCame_any (l : List Ev) (hsm : ∀ e ∈ l, e.Small) (hN : l.length ≤ 1048576) (v : Value) (gk gp : Nat) (w : World) (hr : EvRow w l v) (hgk : gk < w.heap.size) (hgp : gp < w.heap.size) (ck : w.cell? ⟨gk, 0, none⟩ = some (.int .i64 4)) (cp : w.cell? ⟨gp, 0, none⟩ = some partCameV) :
    Calls Try.prog 68 #[v, .slice none 0 0, .func (.func 69) #[] #[.pointer (some ⟨gk, 0, none⟩), .pointer (some ⟨gp, 0, none⟩)]] w fun x w' => ∃ v', x = .returned (.tuple #[v', .bool true]) ∧ w'.ownsRow w.heap.size 53 7 v' (Pl.comesOf l).length ((Pl.comesOf l).flatMap caL) ∧ Below w.heap.size w w' := by
  obtain ⟨ad, cap, rfl, hc, hmx, hx⟩ := hr
  unfold maxLen at hmx
  have HX := hide hx
  have HSM := hide hsm
  have HCK := hide ck
  have HCP := hide cp
  have HM : Hid (∀ i, (Pl.comesOf (l.take i)).length ≤ l.length) := fun i => by
    unfold Pl.comesOf
    refine Nat.le_trans (List.length_filter_le _ _) ?_
    simp [List.length_take]; omega
  clear hx hsm ck cp
  go_enter Try.func68, Try.ntmps68
  go_wp2_with fail
  go_loopw [1, 14] (fun kv iv wr => ∃ i : Nat, i ≤ l.length ∧ iv = .int .i64 i ∧ Hid (wr.ownsRow w.heap.size 53 7 kv (Pl.comesOf (l.take i)).length ((Pl.comesOf (l.take i)).flatMap caL)) ∧ Hid (Below w.heap.size w wr)) (fun _ iv _ => l.length - (intOf iv).toNat)
  case atStart => exact ⟨0, by omega, rfl, ⟨by simp [Pl.comesOf], .inl ⟨rfl, by simp [Pl.comesOf]⟩⟩, Below.refl _ _⟩
  case round =>
    obtain ⟨i, hi, rfl, HO, HB⟩ := hrel
    obtain ⟨av, cv, hav⟩ := ownsRow_form HO.out
    by_cases hlt : i < l.length
    · obtain ⟨g, off, rfl, hg, hs⟩ := HX.out (by omega)
      obtain ⟨e, he⟩ : ∃ e, l[i]? = some e := ⟨_, List.getElem?_eq_getElem hlt⟩
      have HAT := hide ((hs i e he).later HB.out hg)
      have HT := hide (Pl.comesOf_take l i e he)
      have HES := hide (HSM.out e (List.mem_of_getElem? he))
      have hAl : (Pl.comesOf (l.take i)).length ≤ 1048576 := by have := HM.out i; omega
      have hcall : Hid (∀ o, Calls Try.prog 69 #[.slice av (Pl.comesOf (l.take i)).length cv, evV e, .pointer (some ⟨gk, 0, none⟩), .pointer (some ⟨gp, 0, none⟩)] (wr.alloc o) fun x w' => ∃ v', x = .returned (.tuple #[v', .bool true]) ∧ w'.ownsRow w.heap.size 53 7 v' (Pl.comesOf (l.take (i + 1))).length ((Pl.comesOf (l.take (i + 1))).flatMap caL) ∧ Below w.heap.size w w') := fun o => by
        have hB0 := HB.out.alloc HB.out.size o
        rw [HT.out]
        refine (cloCame_any e HES.out _ hAl _ w.heap.size gk gp (wr.alloc o) (by rw [← hav]; exact ownsRow_later HO.out ((Below.refl _ _).alloc (Nat.le_refl _) _)) hB0.size hgk hgp ((hB0.cell (p := ⟨gk, 0, none⟩) hgk).trans HCK.out) ((hB0.cell (p := ⟨gp, 0, none⟩) hgp).trans HCP.out)).mono ?_
        rintro x w' ⟨v', rfl, h1, h2⟩
        exact ⟨v', rfl, h1, hB0.trans h2⟩
      subst hav
      generalize (Pl.comesOf (l.take i)).length = n0 at *
      clear hs he HO
      have hii : (i : Int) < (l.length : Int) := by omega
      go_wp2_with (first
        | (with_reducible show wpList _ _ _ (Oper.mk _ (Op.load 55 (.tmp 16)) _ _ _ _ :: _) _ _; refine we_mid rfl (.tmp 16) rfl g (off + i * 17) rfl e HAT.out ?_)
        | (with_reducible show wpList _ _ _ (Oper.mk _ (Op.store 55 _ _) _ _ _ _ :: _) _ _; refine we_store rfl (.tmp 9) (.tmp 17) rfl wr.heap.size rfl _ rfl rfl rfl (evL_ok e) ?_)
        | (with_reducible show wpList _ _ _ (Oper.mk _ (Op.load 55 (.tmp 9)) _ _ _ _ :: _) _ _; refine we_load rfl (.tmp 9) rfl wr.heap.size rfl _ (top1 _ _) (evL_ok e) ?_))
      refine (hcall.out _).mono ?_
      rintro x1 X1 ⟨v1, rfl, ho1, hB1⟩
      have HO1 := hide ho1
      have HB1 := hide hB1
      obtain ⟨a1, c1, hav1⟩ := ownsRow_form ho1
      subst hav1
      clear ho1 hB1 hcall HAT
      go_wp2_with fail
      go_roundw
      case rel => exact ⟨i + 1, by omega, by go_num, HO1, HB1⟩
      case measure => simp [intOf]; omega
    · have hie : i = l.length := by omega
      have HE : Hid (Pl.comesOf (l.take i) = Pl.comesOf l) := by show _ = _; rw [hie, List.take_length]
      subst hav
      clear hie
      go_wp2_with fail
      go_ret2
      exact ⟨_, rfl, by rw [← HE.out]; exact HO.out, HB.out⟩
/-- what is told of a history alone -/
def Pl.histCame (l : List Ev) : List Ev := if Pl.histB Pl.evB l = true then Pl.comesOf l else []
set_option maxRecDepth 100000 in
set_option maxHeartbeats 1600000 in
theorem implAllCame_any (l : List Ev) (hwf : ∀ e ∈ l, e.Wf) (hN : l.length ≤ 1048576) (v : Value) (w : World) (hr : EvRow w l v) :
    Calls Try.prog 48 #[v, .int .i64 4, partCameV] w fun x w' => ∃ v', x = .returned v' ∧ w'.ownsRow w.heap.size 53 7 v' (Pl.histCame l).length ((Pl.histCame l).flatMap caL) ∧ Below w.heap.size w w' := by
  have HRW := hide hr
  have hok := hide (fun W hW => implHistOk_any l hwf hN v W hW)
  rw [(Pl.past_hist evB_fit l).1] at hok
  have hwk := hide (fun (hsm : ∀ e ∈ l, e.Small) gk gp W hW a b c d => walkCame_any l hsm hN v gk gp W hW a b c d)
  obtain ⟨ad, cap, rfl, hc, hmx, hx⟩ := hr
  clear hx
  unfold Pl.histCame
  have HSM := hide (hist_small (l := l))
  cases hh : Pl.histB Pl.evB l
  · rw [hh] at hok
    go_enter Try.func48, Try.ntmps48
    go_wp2_with fail
    refine (hok.out _ (HRW.out.later (((Below.refl _ _).alloc (Nat.le_refl _) _).alloc (by simp) _))).mono ?_
    rintro x1 X1 ⟨rfl, hB1⟩
    obtain ⟨_, _, hB⟩ := two_boxes hB1
    have HB := hide hB
    clear hB1 hB hok hwk
    go_wp2_with fail
    go_ret
    exact ⟨_, rfl, ⟨by simp, .inl ⟨rfl, by simp⟩⟩, HB.out⟩
  · rw [hh] at hok
    have hsm := HSM.out hh
    have hwk2 := hide (hwk.out hsm)
    clear hwk hsm HSM
    go_enter Try.func48, Try.ntmps48
    go_wp2_with fail
    refine (hok.out _ (HRW.out.later (((Below.refl _ _).alloc (Nat.le_refl _) _).alloc (by simp) _))).mono ?_
    rintro x1 X1 ⟨rfl, hB1⟩
    obtain ⟨b0, b1, hB⟩ := two_boxes hB1
    have HB := hide hB
    have L0 := hide ((Array.getElem?_eq_some_iff.1 b0).1)
    have L1 := hide ((Array.getElem?_eq_some_iff.1 b1).1)
    have C0 := hide (cell_of_block b0 0)
    have C1 := hide (cell_of_block b1 0)
    clear hB1 hB hok b0 b1
    go_wp2_with fail
    refine (hwk2.out w.heap.size (w.heap.size + 1) X1 (HRW.out.later HB.out) L0.out L1.out C0.out C1.out).mono ?_
    rintro x2 X2 ⟨v2, rfl, ho2, hB2⟩
    have HO2 := hide (ownsRow_base ho2 HB.out.size)
    have HB2 := hide (HB.out.trans (hB2.mono HB.out.size))
    obtain ⟨a2, c2, hav2⟩ := ownsRow_form ho2
    subst hav2
    clear ho2 hB2 hwk2
    go_wp2_with fail
    go_ret
    exact ⟨_, rfl, HO2.out, HB2.out⟩
set_option maxRecDepth 100000 in
set_option maxHeartbeats 1600000 in
theorem implHistCame_any (l : List Ev) (hwf : ∀ e ∈ l, e.Wf) (hN : l.length ≤ 1048576) (v : Value) (w : World) (hr : EvRow w l v) :
    Calls Try.prog 27 #[v] w fun x w' => ∃ v', x = .returned v' ∧ w'.ownsRow w.heap.size 53 7 v' (Pl.histCame l).length ((Pl.histCame l).flatMap caL) ∧ Below w.heap.size w w' := by
  have ha := hide (implAllCame_any l hwf hN v w hr)
  obtain ⟨ad, cap, rfl, hc, hmx, hx⟩ := hr
  clear hx
  go_enter Try.func27, Try.ntmps27
  go_wp2_with fail
  refine ha.out.mono ?_
  rintro x1 X1 ⟨v1, rfl, ho1, hB1⟩
  have HO1 := hide ho1
  have HB1 := hide hB1
  obtain ⟨a1, c1, hav1⟩ := ownsRow_form ho1
  subst hav1
  clear ho1 hB1 ha
  go_wp2_with fail
  go_ret
  exact ⟨_, rfl, HO1.out, HB1.out⟩
set_option maxRecDepth 100000 in
set_option maxHeartbeats 1600000 in
theorem specHistCame_any (l : List Ev) (hwf : ∀ e ∈ l, e.Wf) (hN : l.length ≤ 1048576) (v : Value) (w : World) (hr : EvRow w l v) :
    Calls Try.prog 26 #[v] w fun x w' => ∃ v', x = .returned v' ∧ w'.ownsRow w.heap.size 53 7 v' (Pl.histCame l).length ((Pl.histCame l).flatMap caL) ∧ Below w.heap.size w w' := by
  have HRW := hide hr
  have hok := hide (specHistOk_any l hwf hN v w hr)
  have hcl := hide (fun W hW => l5Comes_any l hN v W hW)
  obtain ⟨ad, cap, rfl, hc, hmx, hx⟩ := hr
  clear hx
  unfold Pl.histCame
  cases hh : Pl.histB Pl.evB l
  · rw [hh] at hok
    go_enter Try.func26, Try.ntmps26
    go_wp2_with fail
    refine hok.out.mono ?_
    rintro x1 X1 ⟨rfl, hB1⟩
    have HB1 := hide hB1
    clear hB1 hok
    go_wp2_with fail
    go_ret
    exact ⟨_, rfl, ownsRow_base (own_start _ _ _ (by decide)) HB1.out.size, below_top HB1.out⟩
  · rw [hh] at hok
    go_enter Try.func26, Try.ntmps26
    go_wp2_with fail
    refine hok.out.mono ?_
    rintro x1 X1 ⟨rfl, hB1⟩
    have HB1 := hide hB1
    clear hB1 hok
    go_wp2_with fail
    refine (hcl.out _ (HRW.out.later HB1.out)).mono ?_
    rintro x2 X2 ⟨v2, rfl, ho2, hB2⟩
    have HO2 := hide (ownsRow_base ho2 HB1.out.size)
    have HB2 := hide (HB1.out.trans (hB2.mono HB1.out.size))
    obtain ⟨a2, c2, hav2⟩ := ownsRow_form ho2
    subst hav2
    clear ho2 hB2
    go_wp2_with fail
    go_ret
    exact ⟨_, rfl, HO2.out, HB2.out⟩
end Go.Proofs.Ytobeecopkfgplaa
