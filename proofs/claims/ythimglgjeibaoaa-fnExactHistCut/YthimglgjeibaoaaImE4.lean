/- Whether an event has what its kind needs, as the program asks it. -/
import Derived.Test.YthimglgjeibaoaaSpE
import Derived.Test.YthimglgjeibaoaaImE1
namespace Go.Proofs.Ythimglgjeibaoaa
open Go.RowKit
set_option linter.unusedVariables false
set_option linter.unusedSimpArgs false

set_option maxRecDepth 100000 in
set_option maxHeartbeats 3200000 in
theorem fits_4 (e : Ev) (hw : e.Wf) (hk : e.k = 4) (w : World) :
    Calls Try.prog 34 #[evV e] w fun x w' => x = .returned (.bool (Pl.evB e)) ∧ Below w.heap.size w w' := by
  obtain ⟨t1, t2, t3, t4, t5⟩ := hw
  have hv := hide (implCameOk_any e.ct e.mp e.mn e.mo e.wk e.wn e.wt t4 t5)
  have hE := eqlEv4 e
  have hOk : Hid (Okv ([.int .i64 e.k, .int .i64 0, .int .i64 0, .string ⟨#[]⟩, .int .i64 0, .int .i64 0, .string ⟨#[]⟩, .int .i64 0, .int .i64 0, .string ⟨#[]⟩, .int .i64 e.ct, .int .i64 e.mp, .string e.mn, .bool e.mo, .int .i64 e.wk, .int .i64 e.wn, .string e.wt] : List Value).toArray) := ⟨rfl, by simp [Value.oneCell']⟩
  have HR : Hid (Pl.evB e = (Pl.cameB e.ct e.mp e.mn e.mo e.wk e.wn e.wt && (Pl.noVal e.vk e.vn e.vt && ((e.many == 0) && Pl.noCmd e.ck e.cn e.ak e.an e.ax)))) := by
    show _ = _
    simp only [Pl.evB, hk]
    generalize Pl.cameB e.ct e.mp e.mn e.mo e.wk e.wn e.wt = x1
    generalize Pl.noVal e.vk e.vn e.vt = x2
    generalize Pl.noCmd e.ck e.cn e.ak e.an e.ax = x3
    generalize Pl.noCame e.ct e.mp e.mn e.mo e.wk e.wn e.wt = x4
    generalize (e.many == 0) = x5
    cases x1 <;> cases x2 <;> cases x3 <;> cases x4 <;> cases x5 <;> rfl
  generalize (Pl.noVal e.vk e.vn e.vt && ((e.many == 0) && Pl.noCmd e.ck e.cn e.ak e.an e.ax)) = eb at *
  generalize Pl.cameB e.ct e.mp e.mn e.mo e.wk e.wn e.wt = vb at *
  generalize Pl.evB e = rb at *
  have q1 : (e.k == 1) = false := by simp [hk]
  have q2 : (e.k == 2) = false := by simp [hk]
  have q3 : (e.k == 3) = false := by simp [hk]
  have q4 : (e.k == 4) = true := by simp [hk]
  clear t1 t2 t3 t4 t5 hk
  go_enter Try.func34, Try.ntmps34
  go_wp2_with (first
    | (with_reducible show wpList _ _ _ (Oper.mk _ (Op.build 46 _) _ _ _ _ :: _) _ _; refine we_build rfl (.tmp 6) rfl e.k rfl ?_)
    | (with_reducible show wpList _ _ _ (Oper.mk _ (Op.store 46 _ _) _ _ _ _ :: _) _ _; refine we_store rfl (.tmp 3) (.tmp 7) rfl (w.heap.size + 1) rfl _ rfl (by simp) rfl (onlyL_ok e.k) ?_)
    | fail)
  refine wp_region_noPanic ?_
  refine wp_region_held_drew (S := (fun W => W.heap[w.heap.size]? = some (.cells (evL e).toArray 46 (0, 0)))) (by kernel_rfl) (top2 _ _ _) (fun hHeld => ?_)
  refine wpAnyH_take (i := 0) (oi := Oper.mk (some 41) _ _ _ _ _) (v := ?_) rfl (by kernel_rfl) (by kernel_rfl) (by kernel_rfl) (fun _ _ _ h => h) (Or.inl ⟨by rfl, ?_⟩) (by assumption) ?_
  rotate_left
  · intro w0 hSw
    clear hSw
    go_simp
    all_goals (with_reducible rfl)
  simp only [Act.put, List.setIfInBounds_toArray, List.set_cons_zero, List.set_cons_succ]
  refine wpAnyH_take (i := 1) (oi := Oper.mk (some 42) _ _ _ _ _) (v := ?_) rfl (by kernel_rfl) (by kernel_rfl) (by kernel_rfl) (fun _ _ _ h => h) (Or.inl ⟨by rfl, ?_⟩) (by assumption) ?_
  rotate_left
  · intro w0 hSw
    have c10 : w0.cell? ⟨w.heap.size, 10, none⟩ = some (.int .i64 e.ct) := cell_of_block hSw 10
    have c11 : w0.cell? ⟨w.heap.size, 11, none⟩ = some (.int .i64 e.mp) := cell_of_block hSw 11
    have c12 : w0.cell? ⟨w.heap.size, 12, none⟩ = some (.string e.mn) := cell_of_block hSw 12
    have c13 : w0.cell? ⟨w.heap.size, 13, none⟩ = some (.bool e.mo) := cell_of_block hSw 13
    have c14 : w0.cell? ⟨w.heap.size, 14, none⟩ = some (.int .i64 e.wk) := cell_of_block hSw 14
    have c15 : w0.cell? ⟨w.heap.size, 15, none⟩ = some (.int .i64 e.wn) := cell_of_block hSw 15
    have c16 : w0.cell? ⟨w.heap.size, 16, none⟩ = some (.string e.wt) := cell_of_block hSw 16
    clear hSw
    go_simp
    all_goals (with_reducible rfl)
  simp only [Act.put, List.setIfInBounds_toArray, List.set_cons_zero, List.set_cons_succ]
  refine wpAnyH_take (i := 2) (oi := Oper.mk (some 43) _ _ _ _ _) (v := ?_) rfl (by kernel_rfl) (by kernel_rfl) (by kernel_rfl) (fun _ _ _ h => h) (Or.inl ⟨by rfl, ?_⟩) (by assumption) ?_
  rotate_left
  · intro w0 hSw
    clear hSw
    go_simp
    all_goals (with_reducible rfl)
  simp only [Act.put, List.setIfInBounds_toArray, List.set_cons_zero, List.set_cons_succ]
  refine wpAnyH_take (i := 3) (oi := Oper.mk (some 44) _ _ _ _ _) (v := ?_) rfl (by kernel_rfl) (by kernel_rfl) (by kernel_rfl) (fun _ _ _ h => h) (Or.inl ⟨by rfl, ?_⟩) (by assumption) ?_
  rotate_left
  · intro w0 hSw
    have c10 : w0.cell? ⟨w.heap.size, 10, none⟩ = some (.int .i64 e.ct) := cell_of_block hSw 10
    have c11 : w0.cell? ⟨w.heap.size, 11, none⟩ = some (.int .i64 e.mp) := cell_of_block hSw 11
    have c12 : w0.cell? ⟨w.heap.size, 12, none⟩ = some (.string e.mn) := cell_of_block hSw 12
    have c13 : w0.cell? ⟨w.heap.size, 13, none⟩ = some (.bool e.mo) := cell_of_block hSw 13
    have c14 : w0.cell? ⟨w.heap.size, 14, none⟩ = some (.int .i64 e.wk) := cell_of_block hSw 14
    have c15 : w0.cell? ⟨w.heap.size, 15, none⟩ = some (.int .i64 e.wn) := cell_of_block hSw 15
    have c16 : w0.cell? ⟨w.heap.size, 16, none⟩ = some (.string e.wt) := cell_of_block hSw 16
    clear hSw
    go_simp
    all_goals (with_reducible rfl)
  simp only [Act.put, List.setIfInBounds_toArray, List.set_cons_zero, List.set_cons_succ]
  refine wpAnyH_take (i := 5) (oi := Oper.mk (some 46) _ _ _ _ _) (v := ?_) rfl (by kernel_rfl) (by kernel_rfl) (by kernel_rfl) (fun _ _ _ h => h) (Or.inl ⟨by rfl, ?_⟩) (by assumption) ?_
  rotate_left
  · intro w0 hSw
    clear hSw
    go_simp
    all_goals (with_reducible rfl)
  simp only [Act.put, List.setIfInBounds_toArray, List.set_cons_zero, List.set_cons_succ]
  refine wpAnyH_ready (rs := [4]) (by kernel_rfl) (by simp) ?_
  refine AllReadyH.cons (o := Oper.mk (some 45) _ _ _ _ none) rfl (fun K hK => ?_) AllReadyH.nil
  go_simp
  go_at_call 54
  refine (hv.out _).mono ?_
  rintro x w1 ⟨rfl, hB1⟩
  obtain ⟨b0, b1, hB⟩ := two_boxes (undrew hB1)
  have HB0 := hide b0
  have HB1 := hide b1
  have HBB := hide hB
  clear hB1 b0 b1 hB
  go_wp2_with fail
  refine hK.out _ _ HB0.out (fun hHeld8 => ?_)
  clear hK K hHeld
  (try simp only [Act.put, List.setIfInBounds_toArray, List.set_cons_zero, List.set_cons_succ])
  have d10 : w1.cell? ⟨w.heap.size + 1, 10, none⟩ = some (.int .i64 0) := cell_of_block HB1.out 10
  have d11 : w1.cell? ⟨w.heap.size + 1, 11, none⟩ = some (.int .i64 0) := cell_of_block HB1.out 11
  have d12 : w1.cell? ⟨w.heap.size + 1, 12, none⟩ = some (.string ⟨#[]⟩) := cell_of_block HB1.out 12
  have d13 : w1.cell? ⟨w.heap.size + 1, 13, none⟩ = some (.bool false) := cell_of_block HB1.out 13
  have d14 : w1.cell? ⟨w.heap.size + 1, 14, none⟩ = some (.int .i64 0) := cell_of_block HB1.out 14
  have d15 : w1.cell? ⟨w.heap.size + 1, 15, none⟩ = some (.int .i64 0) := cell_of_block HB1.out 15
  have d16 : w1.cell? ⟨w.heap.size + 1, 16, none⟩ = some (.string ⟨#[]⟩) := cell_of_block HB1.out 16
  have f10 := free_of_block HB1.out 10
  have f11 := free_of_block HB1.out 11
  have f12 := free_of_block HB1.out 12
  have f13 := free_of_block HB1.out 13
  have f14 := free_of_block HB1.out 14
  have f15 := free_of_block HB1.out 15
  have f16 := free_of_block HB1.out 16
  have H8 := hide hHeld8
  clear hHeld8
  refine wpAnyH_ready (rs := [6]) (by kernel_rfl) (by simp) ?_
  refine AllReadyH.cons (o := Oper.mk none _ _ _ _ none) rfl (fun K hK => ?_) AllReadyH.nil
  go_simp
  refine hK.out _ _ (by show _ = _; rw [Below.heap_setCell _ _ _ _ (by simp only; omega)]; rw [Below.heap_setCell _ _ _ _ (by simp only; omega)]; rw [Below.heap_setCell _ _ _ _ (by simp only; omega)]; rw [Below.heap_setCell _ _ _ _ (by simp only; omega)]; rw [Below.heap_setCell _ _ _ _ (by simp only; omega)]; rw [Below.heap_setCell _ _ _ _ (by simp only; omega)]; rw [Below.heap_setCell _ _ _ _ (by simp only; omega)]; exact HB0.out) (fun hHeld9 => ?_)
  clear hK K
  (try simp only [Act.put, List.setIfInBounds_toArray, List.set_cons_zero, List.set_cons_succ])
  refine wpAnyH_take (i := 7) (oi := Oper.mk (some 4) _ _ _ _ _) (v := ?_) rfl (by kernel_rfl) (by kernel_rfl) (by kernel_rfl) (fun _ _ _ h => h) (Or.inl ⟨by rfl, ?_⟩) (by assumption) ?_
  rotate_left
  · intro w0 hSw
    clear hSw
    go_simp
    all_goals (with_reducible rfl)
  simp only [Act.put, List.setIfInBounds_toArray, List.set_cons_zero, List.set_cons_succ]
  refine wpAnyH_done (by kernel_rfl) ?_ _
  refine NoPanic.normal ?_
  refine gen_exit (fun X => Hid (X.heap[w.heap.size]? = some (.cells (evL e).toArray 46 (0, 0)) ∧ X.heap[w.heap.size + 1]? = some (.cells ([.int .i64 e.k, .int .i64 0, .int .i64 0, .string ⟨#[]⟩, .int .i64 0, .int .i64 0, .string ⟨#[]⟩, .int .i64 0, .int .i64 0, .string ⟨#[]⟩, .int .i64 e.ct, .int .i64 e.mp, .string e.mn, .bool e.mo, .int .i64 e.wk, .int .i64 e.wn, .string e.wt] : List Value).toArray 46 (0, 0)) ∧ Below w.heap.size w X)) ⟨?_, ?_, ?_⟩ ?_
  · rw [Below.heap_setCell _ _ _ _ (by simp only; omega)]; rw [Below.heap_setCell _ _ _ _ (by simp only; omega)]; rw [Below.heap_setCell _ _ _ _ (by simp only; omega)]; rw [Below.heap_setCell _ _ _ _ (by simp only; omega)]; rw [Below.heap_setCell _ _ _ _ (by simp only; omega)]; rw [Below.heap_setCell _ _ _ _ (by simp only; omega)]; rw [Below.heap_setCell _ _ _ _ (by simp only; omega)]; exact HB0.out
  · rw [(block_set (block_set (block_set (block_set (block_set (block_set (block_set HB1.out 10 _) 11 _) 12 _) 13 _) 14 _) 15 _) 16 _)]; rfl
  · exact (((((((HBB.out).setCell (by simp only; omega) _).setCell (by simp only; omega) _).setCell (by simp only; omega) _).setCell (by simp only; omega) _).setCell (by simp only; omega) _).setCell (by simp only; omega) _).setCell (by simp only; omega) _
  intro X HX
  clear hHeld9 HB0 HB1 HBB H8 d10 f10 d11 f11 d12 f12 d13 f13 d14 f14 d15 f15 d16 f16
  cases vb
  all_goals
    go_wp2_with (first
        | (with_reducible show wpList _ _ _ (Oper.mk _ (Op.load 46 (.tmp 1)) _ _ _ _ :: _) _ _; refine we_load rfl (.tmp 1) rfl w.heap.size rfl _ HX.out.1 (evL_ok e) ?_)
        | (with_reducible show wpList _ _ _ (Oper.mk _ (Op.load 46 (.tmp 3)) _ _ _ _ :: _) _ _; refine we_load rfl (.tmp 3) rfl (w.heap.size + 1) rfl _ HX.out.2.1 hOk.out ?_))
    go_ret
    exact ⟨by rw [HR.out]; first | rfl | simp, HX.out.2.2⟩
end Go.Proofs.Ythimglgjeibaoaa
