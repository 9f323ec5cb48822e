/- Whether an event has what its kind needs, as the program asks it. -/
import Derived.Test.YthimglgjeibaoaaSpE
import Derived.Test.YthimglgjeibaoaaEvL
namespace Go.Proofs.Ythimglgjeibaoaa
open Go.RowKit
set_option linter.unusedVariables false
set_option linter.unusedSimpArgs false
theorem undrew {n : Nat} {W w1 : World} (h : Below n W.drew w1) : Below n W w1 := ⟨h.os, h.tape, h.output, h.size, h.block⟩
theorem two_boxes {w w1 : World} {A B : Obj} (hb : Below ((w.alloc A).alloc B).heap.size ((w.alloc A).alloc B) w1) :
    w1.heap[w.heap.size]? = some A ∧ w1.heap[w.heap.size + 1]? = some B ∧ Below w.heap.size w w1 := by
  have e1 : (w.alloc A).heap.size = w.heap.size + 1 := by simp
  have e2 : ((w.alloc A).alloc B).heap.size = w.heap.size + 1 + 1 := by simp
  refine ⟨?_, ?_, ?_⟩
  · rw [hb.block _ (by omega), heap_alloc_at, if_neg (by omega), heap_alloc_at, if_pos rfl]
  · rw [hb.block _ (by omega), heap_alloc_at, if_pos (by omega)]
  · exact (((Below.refl _ _).alloc (Nat.le_refl _) A).alloc (by omega) B).trans (hb.mono (by omega))

set_option maxRecDepth 100000 in
set_option maxHeartbeats 3200000 in
theorem fits_1 (e : Ev) (hw : e.Wf) (hk : e.k = 1) (w : World) :
    Calls Try.prog 34 #[evV e] w fun x w' => x = .returned (.bool (Pl.evB e)) ∧ Below w.heap.size w w' := by
  obtain ⟨t1, t2, t3, t4, t5⟩ := hw
  have hv := hide (implValueOk_any e.vk e.vn e.vt t1)
  have hE := eqlEv1 e
  have hOk : Hid (Okv ([.int .i64 e.k, .int .i64 e.vk, .int .i64 e.vn, .string e.vt, .int .i64 0, .int .i64 0, .string ⟨#[]⟩, .int .i64 0, .int .i64 0, .string ⟨#[]⟩, .int .i64 0, .int .i64 0, .string ⟨#[]⟩, .bool false, .int .i64 0, .int .i64 0, .string ⟨#[]⟩] : List Value).toArray) := ⟨rfl, by simp [Value.oneCell']⟩
  have HR : Hid (Pl.evB e = (Pl.okB e.vk e.vn e.vt && ((e.many == 0) && (Pl.noCmd e.ck e.cn e.ak e.an e.ax && Pl.noCame e.ct e.mp e.mn e.mo e.wk e.wn e.wt)))) := by
    show _ = _
    simp only [Pl.evB, hk]
    generalize Pl.okB e.vk e.vn e.vt = x1
    generalize Pl.noVal e.vk e.vn e.vt = x2
    generalize Pl.noCmd e.ck e.cn e.ak e.an e.ax = x3
    generalize Pl.noCame e.ct e.mp e.mn e.mo e.wk e.wn e.wt = x4
    generalize (e.many == 0) = x5
    cases x1 <;> cases x2 <;> cases x3 <;> cases x4 <;> cases x5 <;> rfl
  generalize ((e.many == 0) && (Pl.noCmd e.ck e.cn e.ak e.an e.ax && Pl.noCame e.ct e.mp e.mn e.mo e.wk e.wn e.wt)) = eb at *
  generalize Pl.okB e.vk e.vn e.vt = vb at *
  generalize Pl.evB e = rb at *
  have q1 : (e.k == 1) = true := by simp [hk]
  clear t1 t2 t3 t4 t5 hk
  go_enter Try.func34, Try.ntmps34
  go_wp2_with (first
    | (with_reducible show wpList _ _ _ (Oper.mk _ (Op.build 46 _) _ _ _ _ :: _) _ _; refine we_build rfl (.tmp 6) rfl e.k rfl ?_)
    | (with_reducible show wpList _ _ _ (Oper.mk _ (Op.store 46 _ _) _ _ _ _ :: _) _ _; refine we_store rfl (.tmp 3) (.tmp 7) rfl (w.heap.size + 1) rfl _ rfl (by simp) rfl (onlyL_ok e.k) ?_)
    | fail)
  go_region_held3 (fun W => W.cell? ⟨w.heap.size, 1, none⟩ = some (.int .i64 e.vk) ∧ W.cell? ⟨w.heap.size, 2, none⟩ = some (.int .i64 e.vn) ∧ W.cell? ⟨w.heap.size, 3, none⟩ = some (.string e.vt)) (first | (refine ⟨by assumption, by assumption, by assumption⟩) | go_keep)
    (first | (go_at_call 52; refine (hv.out _).mono ?_; rintro x w1 ⟨rfl, hB1⟩; obtain ⟨b0, b1, hB⟩ := two_boxes (undrew hB1); have HB0 := hide b0; have HB1 := hide b1; have HBB := hide hB; have c1 : w1.cell? ⟨w.heap.size, 1, none⟩ = some (.int .i64 e.vk) := cell_of_block b0 1; have c2 : w1.cell? ⟨w.heap.size, 2, none⟩ = some (.int .i64 e.vn) := cell_of_block b0 2; have c3 : w1.cell? ⟨w.heap.size, 3, none⟩ = some (.string e.vt) := cell_of_block b0 3; have d1 : w1.cell? ⟨w.heap.size + 1, 1, none⟩ = some (.int .i64 0) := cell_of_block b1 1; have d2 : w1.cell? ⟨w.heap.size + 1, 2, none⟩ = some (.int .i64 0) := cell_of_block b1 2; have d3 : w1.cell? ⟨w.heap.size + 1, 3, none⟩ = some (.string ⟨#[]⟩) := cell_of_block b1 3; have f1 := free_of_block b1 1; have f2 := free_of_block b1 2; have f3 := free_of_block b1 3; clear hB1 b0 b1 hB))
  all_goals
    refine gen_exit (fun X => Hid (X.heap[w.heap.size]? = some (.cells (evL e).toArray 46 (0, 0)) ∧ X.heap[w.heap.size + 1]? = some (.cells ([.int .i64 e.k, .int .i64 e.vk, .int .i64 e.vn, .string e.vt, .int .i64 0, .int .i64 0, .string ⟨#[]⟩, .int .i64 0, .int .i64 0, .string ⟨#[]⟩, .int .i64 0, .int .i64 0, .string ⟨#[]⟩, .bool false, .int .i64 0, .int .i64 0, .string ⟨#[]⟩] : List Value).toArray 46 (0, 0)) ∧ Below w.heap.size w X)) ⟨?_, ?_, ?_⟩ ?_
    · rw [Below.heap_setCell _ _ _ _ (by simp only; omega)]; rw [Below.heap_setCell _ _ _ _ (by simp only; omega)]; rw [Below.heap_setCell _ _ _ _ (by simp only; omega)]; exact HB0.out
    · rw [(block_set (block_set (block_set HB1.out 1 _) 2 _) 3 _)]; rfl
    · exact (((HBB.out).setCell (by simp only; omega) _).setCell (by simp only; omega) _).setCell (by simp only; omega) _
    intro X HX
    clear HB0 HB1 HBB c1 d1 f1 c2 d2 f2 c3 d3 f3
    cases vb
    all_goals
      go_wp2_with (first
        | (with_reducible show wpList _ _ _ (Oper.mk _ (Op.load 46 (.tmp 1)) _ _ _ _ :: _) _ _; refine we_load rfl (.tmp 1) rfl w.heap.size rfl _ HX.out.1 (evL_ok e) ?_)
        | (with_reducible show wpList _ _ _ (Oper.mk _ (Op.load 46 (.tmp 3)) _ _ _ _ :: _) _ _; refine we_load rfl (.tmp 3) rfl (w.heap.size + 1) rfl _ HX.out.2.1 hOk.out ?_))
      go_ret
      exact ⟨by rw [HR.out]; first | rfl | simp, HX.out.2.2⟩
end Go.Proofs.Ythimglgjeibaoaa
