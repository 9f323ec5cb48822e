/- Whether an event has what its kind needs, as the program asks it. -/
import Derived.Test.YthimglgjeibaoaaSpE
import Derived.Test.YthimglgjeibaoaaImE1
namespace Go.Proofs.Ythimglgjeibaoaa
open Go.RowKit
set_option linter.unusedVariables false
set_option linter.unusedSimpArgs false

set_option maxRecDepth 100000 in
set_option maxHeartbeats 3200000 in
theorem fits_3 (e : Ev) (hw : e.Wf) (hk : e.k = 3) (w : World) :
    Calls Try.prog 34 #[evV e] w fun x w' => x = .returned (.bool (Pl.evB e)) ∧ Below w.heap.size w w' := by
  obtain ⟨t1, t2, t3, t4, t5⟩ := hw
  have hv := hide (implCmdOk_any e.ck e.cn e.ak e.an e.ax t2 t3)
  have hE := eqlEv3 e
  have hOk : Hid (Okv ([.int .i64 e.k, .int .i64 0, .int .i64 0, .string ⟨#[]⟩, .int .i64 0, .int .i64 e.ck, .string e.cn, .int .i64 e.ak, .int .i64 e.an, .string e.ax, .int .i64 0, .int .i64 0, .string ⟨#[]⟩, .bool false, .int .i64 0, .int .i64 0, .string ⟨#[]⟩] : List Value).toArray) := ⟨rfl, by simp [Value.oneCell']⟩
  have HR : Hid (Pl.evB e = (Pl.cmdB e.ck e.cn e.ak e.an e.ax && (Pl.noVal e.vk e.vn e.vt && ((e.many == 0) && Pl.noCame e.ct e.mp e.mn e.mo e.wk e.wn e.wt)))) := by
    show _ = _
    simp only [Pl.evB, hk]
    generalize Pl.cmdB e.ck e.cn e.ak e.an e.ax = x1
    generalize Pl.noVal e.vk e.vn e.vt = x2
    generalize Pl.noCmd e.ck e.cn e.ak e.an e.ax = x3
    generalize Pl.noCame e.ct e.mp e.mn e.mo e.wk e.wn e.wt = x4
    generalize (e.many == 0) = x5
    cases x1 <;> cases x2 <;> cases x3 <;> cases x4 <;> cases x5 <;> rfl
  generalize (Pl.noVal e.vk e.vn e.vt && ((e.many == 0) && Pl.noCame e.ct e.mp e.mn e.mo e.wk e.wn e.wt)) = eb at *
  generalize Pl.cmdB e.ck e.cn e.ak e.an e.ax = vb at *
  generalize Pl.evB e = rb at *
  have q1 : (e.k == 1) = false := by simp [hk]
  have q2 : (e.k == 2) = false := by simp [hk]
  have q3 : (e.k == 3) = true := by simp [hk]
  clear t1 t2 t3 t4 t5 hk
  go_enter Try.func34, Try.ntmps34
  go_wp2_with (first
    | (with_reducible show wpList _ _ _ (Oper.mk _ (Op.build 46 _) _ _ _ _ :: _) _ _; refine we_build rfl (.tmp 6) rfl e.k rfl ?_)
    | (with_reducible show wpList _ _ _ (Oper.mk _ (Op.store 46 _ _) _ _ _ _ :: _) _ _; refine we_store rfl (.tmp 3) (.tmp 7) rfl (w.heap.size + 1) rfl _ rfl (by simp) rfl (onlyL_ok e.k) ?_)
    | fail)
  refine wp_region_noPanic ?_
  refine wp_region_held_drew (S := (fun W => W.heap[w.heap.size]? = some (.cells (evL e).toArray 46 (0, 0)))) (by kernel_rfl) (top2 _ _ _) (fun hHeld => ?_)
  refine wpAnyH_take (i := 0) (oi := Oper.mk (some 33) _ _ _ _ _) (v := ?_) rfl (by kernel_rfl) (by kernel_rfl) (by kernel_rfl) (fun _ _ _ h => h) (Or.inl ⟨by rfl, ?_⟩) (by assumption) ?_
  rotate_left
  · intro w0 hSw
    clear hSw
    go_simp
    all_goals (with_reducible rfl)
  simp only [Act.put, List.setIfInBounds_toArray, List.set_cons_zero, List.set_cons_succ]
  refine wpAnyH_take (i := 1) (oi := Oper.mk (some 34) _ _ _ _ _) (v := ?_) rfl (by kernel_rfl) (by kernel_rfl) (by kernel_rfl) (fun _ _ _ h => h) (Or.inl ⟨by rfl, ?_⟩) (by assumption) ?_
  rotate_left
  · intro w0 hSw
    have c5 : w0.cell? ⟨w.heap.size, 5, none⟩ = some (.int .i64 e.ck) := cell_of_block hSw 5
    have c6 : w0.cell? ⟨w.heap.size, 6, none⟩ = some (.string e.cn) := cell_of_block hSw 6
    have c7 : w0.cell? ⟨w.heap.size, 7, none⟩ = some (.int .i64 e.ak) := cell_of_block hSw 7
    have c8 : w0.cell? ⟨w.heap.size, 8, none⟩ = some (.int .i64 e.an) := cell_of_block hSw 8
    have c9 : w0.cell? ⟨w.heap.size, 9, none⟩ = some (.string e.ax) := cell_of_block hSw 9
    clear hSw
    go_simp
    all_goals (with_reducible rfl)
  simp only [Act.put, List.setIfInBounds_toArray, List.set_cons_zero, List.set_cons_succ]
  refine wpAnyH_take (i := 2) (oi := Oper.mk (some 35) _ _ _ _ _) (v := ?_) rfl (by kernel_rfl) (by kernel_rfl) (by kernel_rfl) (fun _ _ _ h => h) (Or.inl ⟨by rfl, ?_⟩) (by assumption) ?_
  rotate_left
  · intro w0 hSw
    clear hSw
    go_simp
    all_goals (with_reducible rfl)
  simp only [Act.put, List.setIfInBounds_toArray, List.set_cons_zero, List.set_cons_succ]
  refine wpAnyH_take (i := 3) (oi := Oper.mk (some 36) _ _ _ _ _) (v := ?_) rfl (by kernel_rfl) (by kernel_rfl) (by kernel_rfl) (fun _ _ _ h => h) (Or.inl ⟨by rfl, ?_⟩) (by assumption) ?_
  rotate_left
  · intro w0 hSw
    have c5 : w0.cell? ⟨w.heap.size, 5, none⟩ = some (.int .i64 e.ck) := cell_of_block hSw 5
    have c6 : w0.cell? ⟨w.heap.size, 6, none⟩ = some (.string e.cn) := cell_of_block hSw 6
    have c7 : w0.cell? ⟨w.heap.size, 7, none⟩ = some (.int .i64 e.ak) := cell_of_block hSw 7
    have c8 : w0.cell? ⟨w.heap.size, 8, none⟩ = some (.int .i64 e.an) := cell_of_block hSw 8
    have c9 : w0.cell? ⟨w.heap.size, 9, none⟩ = some (.string e.ax) := cell_of_block hSw 9
    clear hSw
    go_simp
    all_goals (with_reducible rfl)
  simp only [Act.put, List.setIfInBounds_toArray, List.set_cons_zero, List.set_cons_succ]
  refine wpAnyH_take (i := 5) (oi := Oper.mk (some 38) _ _ _ _ _) (v := ?_) rfl (by kernel_rfl) (by kernel_rfl) (by kernel_rfl) (fun _ _ _ h => h) (Or.inl ⟨by rfl, ?_⟩) (by assumption) ?_
  rotate_left
  · intro w0 hSw
    clear hSw
    go_simp
    all_goals (with_reducible rfl)
  simp only [Act.put, List.setIfInBounds_toArray, List.set_cons_zero, List.set_cons_succ]
  refine wpAnyH_ready (rs := [4]) (by kernel_rfl) (by simp) ?_
  refine AllReadyH.cons (o := Oper.mk (some 37) _ _ _ _ none) rfl (fun K hK => ?_) AllReadyH.nil
  go_simp
  go_at_call 53
  refine (hv.out _).mono ?_
  rintro x w1 ⟨rfl, hB1⟩
  obtain ⟨b0, b1, hB⟩ := two_boxes (undrew hB1)
  have HB0 := hide b0
  have HB1 := hide b1
  have HBB := hide hB
  clear hB1 b0 b1 hB
  go_wp2_with fail
  refine hK.out _ _ HB0.out (fun hHeld8 => ?_)
  clear hK K hHeld
  (try simp only [Act.put, List.setIfInBounds_toArray, List.set_cons_zero, List.set_cons_succ])
  have d5 : w1.cell? ⟨w.heap.size + 1, 5, none⟩ = some (.int .i64 0) := cell_of_block HB1.out 5
  have d6 : w1.cell? ⟨w.heap.size + 1, 6, none⟩ = some (.string ⟨#[]⟩) := cell_of_block HB1.out 6
  have d7 : w1.cell? ⟨w.heap.size + 1, 7, none⟩ = some (.int .i64 0) := cell_of_block HB1.out 7
  have d8 : w1.cell? ⟨w.heap.size + 1, 8, none⟩ = some (.int .i64 0) := cell_of_block HB1.out 8
  have d9 : w1.cell? ⟨w.heap.size + 1, 9, none⟩ = some (.string ⟨#[]⟩) := cell_of_block HB1.out 9
  have f5 := free_of_block HB1.out 5
  have f6 := free_of_block HB1.out 6
  have f7 := free_of_block HB1.out 7
  have f8 := free_of_block HB1.out 8
  have f9 := free_of_block HB1.out 9
  have H8 := hide hHeld8
  clear hHeld8
  refine wpAnyH_ready (rs := [6]) (by kernel_rfl) (by simp) ?_
  refine AllReadyH.cons (o := Oper.mk none _ _ _ _ none) rfl (fun K hK => ?_) AllReadyH.nil
  go_simp
  refine hK.out _ _ (by show _ = _; rw [Below.heap_setCell _ _ _ _ (by simp only; omega)]; rw [Below.heap_setCell _ _ _ _ (by simp only; omega)]; rw [Below.heap_setCell _ _ _ _ (by simp only; omega)]; rw [Below.heap_setCell _ _ _ _ (by simp only; omega)]; rw [Below.heap_setCell _ _ _ _ (by simp only; omega)]; exact HB0.out) (fun hHeld9 => ?_)
  clear hK K
  (try simp only [Act.put, List.setIfInBounds_toArray, List.set_cons_zero, List.set_cons_succ])
  refine wpAnyH_take (i := 7) (oi := Oper.mk (some 4) _ _ _ _ _) (v := ?_) rfl (by kernel_rfl) (by kernel_rfl) (by kernel_rfl) (fun _ _ _ h => h) (Or.inl ⟨by rfl, ?_⟩) (by assumption) ?_
  rotate_left
  · intro w0 hSw
    clear hSw
    go_simp
    all_goals (with_reducible rfl)
  simp only [Act.put, List.setIfInBounds_toArray, List.set_cons_zero, List.set_cons_succ]
  refine wpAnyH_done (by kernel_rfl) ?_ _
  refine NoPanic.normal ?_
  refine gen_exit (fun X => Hid (X.heap[w.heap.size]? = some (.cells (evL e).toArray 46 (0, 0)) ∧ X.heap[w.heap.size + 1]? = some (.cells ([.int .i64 e.k, .int .i64 0, .int .i64 0, .string ⟨#[]⟩, .int .i64 0, .int .i64 e.ck, .string e.cn, .int .i64 e.ak, .int .i64 e.an, .string e.ax, .int .i64 0, .int .i64 0, .string ⟨#[]⟩, .bool false, .int .i64 0, .int .i64 0, .string ⟨#[]⟩] : List Value).toArray 46 (0, 0)) ∧ Below w.heap.size w X)) ⟨?_, ?_, ?_⟩ ?_
  · rw [Below.heap_setCell _ _ _ _ (by simp only; omega)]; rw [Below.heap_setCell _ _ _ _ (by simp only; omega)]; rw [Below.heap_setCell _ _ _ _ (by simp only; omega)]; rw [Below.heap_setCell _ _ _ _ (by simp only; omega)]; rw [Below.heap_setCell _ _ _ _ (by simp only; omega)]; exact HB0.out
  · rw [(block_set (block_set (block_set (block_set (block_set HB1.out 5 _) 6 _) 7 _) 8 _) 9 _)]; rfl
  · exact (((((HBB.out).setCell (by simp only; omega) _).setCell (by simp only; omega) _).setCell (by simp only; omega) _).setCell (by simp only; omega) _).setCell (by simp only; omega) _
  intro X HX
  clear hHeld9 HB0 HB1 HBB H8 d5 f5 d6 f6 d7 f7 d8 f8 d9 f9
  cases vb
  all_goals
    go_wp2_with (first
        | (with_reducible show wpList _ _ _ (Oper.mk _ (Op.load 46 (.tmp 1)) _ _ _ _ :: _) _ _; refine we_load rfl (.tmp 1) rfl w.heap.size rfl _ HX.out.1 (evL_ok e) ?_)
        | (with_reducible show wpList _ _ _ (Oper.mk _ (Op.load 46 (.tmp 3)) _ _ _ _ :: _) _ _; refine we_load rfl (.tmp 3) rfl (w.heap.size + 1) rfl _ HX.out.2.1 hOk.out ?_))
    go_ret
    exact ⟨by rw [HR.out]; first | rfl | simp, HX.out.2.2⟩
end Go.Proofs.Ythimglgjeibaoaa
