/- Whether an event has what its kind needs, as the program asks it. -/
import Derived.Test.YthimglgjeibaoaaSpE
import Derived.Test.YthimglgjeibaoaaImE1
namespace Go.Proofs.Ythimglgjeibaoaa
open Go.RowKit
set_option linter.unusedVariables false
set_option linter.unusedSimpArgs false

set_option maxRecDepth 100000 in
set_option maxHeartbeats 3200000 in
theorem fits_2 (e : Ev) (hw : e.Wf) (hk : e.k = 2) (w : World) :
    Calls Try.prog 34 #[evV e] w fun x w' => x = .returned (.bool (Pl.evB e)) ∧ Below w.heap.size w w' := by
  obtain ⟨t1, t2, t3, t4, t5⟩ := hw
  have hE := eqlEv2 e
  have hOk : Hid (Okv ([.int .i64 e.k, .int .i64 0, .int .i64 0, .string ⟨#[]⟩, .int .i64 e.many, .int .i64 0, .string ⟨#[]⟩, .int .i64 0, .int .i64 0, .string ⟨#[]⟩, .int .i64 0, .int .i64 0, .string ⟨#[]⟩, .bool false, .int .i64 0, .int .i64 0, .string ⟨#[]⟩] : List Value).toArray) := ⟨rfl, by simp [Value.oneCell']⟩
  have HR : Hid (Pl.evB e = ((decide (0 ≤ e.many) && decide (e.many ≤ 40)) && (Pl.noVal e.vk e.vn e.vt && (Pl.noCmd e.ck e.cn e.ak e.an e.ax && Pl.noCame e.ct e.mp e.mn e.mo e.wk e.wn e.wt)))) := by
    show _ = _
    simp only [Pl.evB, hk]
    generalize (decide (0 ≤ e.many) && decide (e.many ≤ 40)) = x1
    generalize Pl.noVal e.vk e.vn e.vt = x2
    generalize Pl.noCmd e.ck e.cn e.ak e.an e.ax = x3
    generalize Pl.noCame e.ct e.mp e.mn e.mo e.wk e.wn e.wt = x4
    generalize (e.many == 0) = x5
    cases x1 <;> cases x2 <;> cases x3 <;> cases x4 <;> cases x5 <;> rfl
  generalize (Pl.noVal e.vk e.vn e.vt && (Pl.noCmd e.ck e.cn e.ak e.an e.ax && Pl.noCame e.ct e.mp e.mn e.mo e.wk e.wn e.wt)) = eb at *
  generalize Pl.evB e = rb at *
  have q1 : (e.k == 1) = false := by simp [hk]
  have q2 : (e.k == 2) = true := by simp [hk]
  clear t1 t2 t3 t4 t5 hk
  by_cases m0 : 0 ≤ e.many
  · by_cases m1 : e.many ≤ 40
    · have HR2 : Hid (rb = (true && eb)) := by show _ = _; rw [HR.out]; simp [m0, m1]
      go_enter Try.func34, Try.ntmps34
      go_wp2_with (first
        | (with_reducible show wpList _ _ _ (Oper.mk _ (Op.build 46 _) _ _ _ _ :: _) _ _; refine we_build rfl (.tmp 6) rfl e.k rfl ?_)
        | (with_reducible show wpList _ _ _ (Oper.mk _ (Op.store 46 _ _) _ _ _ _ :: _) _ _; refine we_store rfl (.tmp 3) (.tmp 7) rfl (w.heap.size + 1) rfl _ rfl (by simp) rfl (onlyL_ok e.k) ?_)
        | fail)
      refine wp_region_noPanic ?_
      refine wp_region_held_drew (S := (fun W => W.heap[w.heap.size]? = some (.cells (evL e).toArray 46 (0, 0)))) (by kernel_rfl) (top2 _ _ _) (fun hHeld => ?_)
      refine wpAnyH_take (i := 0) (oi := Oper.mk (some 20) _ _ _ _ _) (v := ?_) rfl (by kernel_rfl) (by kernel_rfl) (by kernel_rfl) (fun _ _ _ h => h) (Or.inl ⟨by rfl, ?_⟩) (by assumption) ?_
      rotate_left
      · intro w0 hSw
        clear hSw
        go_simp
        all_goals (with_reducible rfl)
      simp only [Act.put, List.setIfInBounds_toArray, List.set_cons_zero, List.set_cons_succ]
      refine wpAnyH_take (i := 1) (oi := Oper.mk (some 21) _ _ _ _ _) (v := ?_) rfl (by kernel_rfl) (by kernel_rfl) (by kernel_rfl) (fun _ _ _ h => h) (Or.inl ⟨by rfl, ?_⟩) (by assumption) ?_
      rotate_left
      · intro w0 hSw
        have c4 : w0.cell? ⟨w.heap.size, 4, none⟩ = some (.int .i64 e.many) := cell_of_block hSw 4
        clear hSw
        go_simp
        all_goals (with_reducible rfl)
      simp only [Act.put, List.setIfInBounds_toArray, List.set_cons_zero, List.set_cons_succ]
      refine wpAnyH_take (i := 2) (oi := Oper.mk (some 22) _ _ _ _ _) (v := ?_) rfl (by kernel_rfl) (by kernel_rfl) (by kernel_rfl) (fun _ _ _ h => h) (Or.inl ⟨by rfl, ?_⟩) (by assumption) ?_
      rotate_left
      · intro w0 hSw
        clear hSw
        go_simp
        all_goals (with_reducible rfl)
      simp only [Act.put, List.setIfInBounds_toArray, List.set_cons_zero, List.set_cons_succ]
      refine wpAnyH_take (i := 3) (oi := Oper.mk (some 23) _ _ _ _ _) (v := ?_) rfl (by kernel_rfl) (by kernel_rfl) (by kernel_rfl) (fun _ _ _ h => h) (Or.inl ⟨by rfl, ?_⟩) (by assumption) ?_
      rotate_left
      · intro w0 hSw
        have c4 : w0.cell? ⟨w.heap.size, 4, none⟩ = some (.int .i64 e.many) := cell_of_block hSw 4
        clear hSw
        go_simp
        all_goals (with_reducible rfl)
      simp only [Act.put, List.setIfInBounds_toArray, List.set_cons_zero, List.set_cons_succ]
      refine wpAnyH_take (i := 4) (oi := Oper.mk (some 24) _ _ _ _ _) (v := ?_) rfl (by kernel_rfl) (by kernel_rfl) (by kernel_rfl) (fun _ _ _ h => h) (Or.inl ⟨by rfl, ?_⟩) (by assumption) ?_
      rotate_left
      · intro w0 hSw
        clear hSw
        go_simp
        all_goals (with_reducible rfl)
      simp only [Act.put, List.setIfInBounds_toArray, List.set_cons_zero, List.set_cons_succ]
      refine wpAnyH_take (i := 5) (oi := Oper.mk (some 25) _ _ _ _ _) (v := ?_) rfl (by kernel_rfl) (by kernel_rfl) (by kernel_rfl) (fun _ _ _ h => h) (Or.inl ⟨by rfl, ?_⟩) (by assumption) ?_
      rotate_left
      · intro w0 hSw
        clear hSw
        go_simp
        all_goals (with_reducible rfl)
      simp only [Act.put, List.setIfInBounds_toArray, List.set_cons_zero, List.set_cons_succ]
      refine wpAnyH_take (i := 6) (oi := Oper.mk (some 26) _ _ _ _ _) (v := ?_) rfl (by kernel_rfl) (by kernel_rfl) (by kernel_rfl) (fun _ _ _ h => h) (Or.inl ⟨by rfl, ?_⟩) (by assumption) ?_
      rotate_left
      · intro w0 hSw
        clear hSw
        go_simp
        all_goals (with_reducible rfl)
      simp only [Act.put, List.setIfInBounds_toArray, List.set_cons_zero, List.set_cons_succ]
      refine wpAnyH_take (i := 7) (oi := Oper.mk (some 27) _ _ _ _ _) (v := ?_) rfl (by kernel_rfl) (by kernel_rfl) (by kernel_rfl) (fun _ _ _ h => h) (Or.inl ⟨by rfl, ?_⟩) (by assumption) ?_
      rotate_left
      · intro w0 hSw
        have c4 : w0.cell? ⟨w.heap.size, 4, none⟩ = some (.int .i64 e.many) := cell_of_block hSw 4
        clear hSw
        go_simp
        all_goals (with_reducible rfl)
      simp only [Act.put, List.setIfInBounds_toArray, List.set_cons_zero, List.set_cons_succ]
      refine wpAnyH_take (i := 8) (oi := Oper.mk (some 28) _ _ _ _ _) (v := ?_) rfl (by kernel_rfl) (by kernel_rfl) (by kernel_rfl) (fun _ _ _ h => h) (Or.inl ⟨by rfl, ?_⟩) (by assumption) ?_
      rotate_left
      · intro w0 hSw
        clear hSw
        go_simp
        all_goals (with_reducible rfl)
      simp only [Act.put, List.setIfInBounds_toArray, List.set_cons_zero, List.set_cons_succ]
      refine wpAnyH_take (i := 9) (oi := Oper.mk (some 29) _ _ _ _ _) (v := ?_) rfl (by kernel_rfl) (by kernel_rfl) (by kernel_rfl) (fun _ _ _ h => h) (Or.inl ⟨by rfl, ?_⟩) (by assumption) ?_
      rotate_left
      · intro w0 hSw
        clear hSw
        go_simp
        all_goals (with_reducible rfl)
      simp only [Act.put, List.setIfInBounds_toArray, List.set_cons_zero, List.set_cons_succ]
      refine wpAnyH_take (i := 10) (oi := Oper.mk (some 30) _ _ _ _ _) (v := ?_) rfl (by kernel_rfl) (by kernel_rfl) (by kernel_rfl) (fun _ _ _ h => h) (Or.inl ⟨by rfl, ?_⟩) (by assumption) ?_
      rotate_left
      · intro w0 hSw
        clear hSw
        go_simp
        all_goals (with_reducible rfl)
      simp only [Act.put, List.setIfInBounds_toArray, List.set_cons_zero, List.set_cons_succ]
      refine wpAnyH_ready (rs := [11]) (by kernel_rfl) (by simp) ?_
      refine AllReadyH.cons (o := Oper.mk none _ _ _ _ none) rfl (fun K hK => ?_) AllReadyH.nil
      go_simp
      refine hK.out _ _ (top2 _ _ _) (fun hHeld9 => ?_)
      clear hK K
      (try simp only [Act.put, List.setIfInBounds_toArray, List.set_cons_zero, List.set_cons_succ])
      refine wpAnyH_take (i := 12) (oi := Oper.mk (some 4) _ _ _ _ _) (v := ?_) rfl (by kernel_rfl) (by kernel_rfl) (by kernel_rfl) (fun _ _ _ h => h) (Or.inl ⟨by rfl, ?_⟩) (by assumption) ?_
      rotate_left
      · intro w0 hSw
        clear hSw
        go_simp
        all_goals (with_reducible rfl)
      simp only [Act.put, List.setIfInBounds_toArray, List.set_cons_zero, List.set_cons_succ]
      refine wpAnyH_done (by kernel_rfl) ?_ _
      refine NoPanic.normal ?_
      refine gen_exit (fun X => Hid (X.heap[w.heap.size]? = some (.cells (evL e).toArray 46 (0, 0)) ∧ X.heap[w.heap.size + 1]? = some (.cells ([.int .i64 e.k, .int .i64 0, .int .i64 0, .string ⟨#[]⟩, .int .i64 e.many, .int .i64 0, .string ⟨#[]⟩, .int .i64 0, .int .i64 0, .string ⟨#[]⟩, .int .i64 0, .int .i64 0, .string ⟨#[]⟩, .bool false, .int .i64 0, .int .i64 0, .string ⟨#[]⟩] : List Value).toArray 46 (0, 0)) ∧ Below w.heap.size w X)) ⟨?_, ?_, ?_⟩ ?_
      · exact top2 _ _ _
      · exact top2' _ _ _
      · exact below_drew' (((Below.refl _ _).alloc (Nat.le_refl _) _).alloc (by simp) _)
      intro X HX
      clear hHeld9  hHeld
      go_wp2_with (first
          | (with_reducible show wpList _ _ _ (Oper.mk _ (Op.load 46 (.tmp 1)) _ _ _ _ :: _) _ _; refine we_load rfl (.tmp 1) rfl w.heap.size rfl _ HX.out.1 (evL_ok e) ?_)
          | (with_reducible show wpList _ _ _ (Oper.mk _ (Op.load 46 (.tmp 3)) _ _ _ _ :: _) _ _; refine we_load rfl (.tmp 3) rfl (w.heap.size + 1) rfl _ HX.out.2.1 hOk.out ?_))
      go_ret
      exact ⟨by rw [HR2.out]; first | rfl | simp, HX.out.2.2⟩
    · have HR2 : Hid (rb = (false && eb)) := by show _ = _; rw [HR.out]; simp [m1]
      go_enter Try.func34, Try.ntmps34
      go_wp2_with (first
        | (with_reducible show wpList _ _ _ (Oper.mk _ (Op.build 46 _) _ _ _ _ :: _) _ _; refine we_build rfl (.tmp 6) rfl e.k rfl ?_)
        | (with_reducible show wpList _ _ _ (Oper.mk _ (Op.store 46 _ _) _ _ _ _ :: _) _ _; refine we_store rfl (.tmp 3) (.tmp 7) rfl (w.heap.size + 1) rfl _ rfl (by simp) rfl (onlyL_ok e.k) ?_)
        | fail)
      refine wp_region_noPanic ?_
      refine wp_region_held_drew (S := (fun W => W.heap[w.heap.size]? = some (.cells (evL e).toArray 46 (0, 0)))) (by kernel_rfl) (top2 _ _ _) (fun hHeld => ?_)
      refine wpAnyH_take (i := 0) (oi := Oper.mk (some 20) _ _ _ _ _) (v := ?_) rfl (by kernel_rfl) (by kernel_rfl) (by kernel_rfl) (fun _ _ _ h => h) (Or.inl ⟨by rfl, ?_⟩) (by assumption) ?_
      rotate_left
      · intro w0 hSw
        clear hSw
        go_simp
        all_goals (with_reducible rfl)
      simp only [Act.put, List.setIfInBounds_toArray, List.set_cons_zero, List.set_cons_succ]
      refine wpAnyH_take (i := 1) (oi := Oper.mk (some 21) _ _ _ _ _) (v := ?_) rfl (by kernel_rfl) (by kernel_rfl) (by kernel_rfl) (fun _ _ _ h => h) (Or.inl ⟨by rfl, ?_⟩) (by assumption) ?_
      rotate_left
      · intro w0 hSw
        have c4 : w0.cell? ⟨w.heap.size, 4, none⟩ = some (.int .i64 e.many) := cell_of_block hSw 4
        clear hSw
        go_simp
        all_goals (with_reducible rfl)
      simp only [Act.put, List.setIfInBounds_toArray, List.set_cons_zero, List.set_cons_succ]
      refine wpAnyH_take (i := 2) (oi := Oper.mk (some 22) _ _ _ _ _) (v := ?_) rfl (by kernel_rfl) (by kernel_rfl) (by kernel_rfl) (fun _ _ _ h => h) (Or.inl ⟨by rfl, ?_⟩) (by assumption) ?_
      rotate_left
      · intro w0 hSw
        clear hSw
        go_simp
        all_goals (with_reducible rfl)
      simp only [Act.put, List.setIfInBounds_toArray, List.set_cons_zero, List.set_cons_succ]
      refine wpAnyH_take (i := 3) (oi := Oper.mk (some 23) _ _ _ _ _) (v := ?_) rfl (by kernel_rfl) (by kernel_rfl) (by kernel_rfl) (fun _ _ _ h => h) (Or.inl ⟨by rfl, ?_⟩) (by assumption) ?_
      rotate_left
      · intro w0 hSw
        have c4 : w0.cell? ⟨w.heap.size, 4, none⟩ = some (.int .i64 e.many) := cell_of_block hSw 4
        clear hSw
        go_simp
        all_goals (with_reducible rfl)
      simp only [Act.put, List.setIfInBounds_toArray, List.set_cons_zero, List.set_cons_succ]
      refine wpAnyH_take (i := 4) (oi := Oper.mk (some 24) _ _ _ _ _) (v := ?_) rfl (by kernel_rfl) (by kernel_rfl) (by kernel_rfl) (fun _ _ _ h => h) (Or.inl ⟨by rfl, ?_⟩) (by assumption) ?_
      rotate_left
      · intro w0 hSw
        clear hSw
        go_simp
        all_goals (with_reducible rfl)
      simp only [Act.put, List.setIfInBounds_toArray, List.set_cons_zero, List.set_cons_succ]
      refine wpAnyH_take (i := 5) (oi := Oper.mk (some 25) _ _ _ _ _) (v := ?_) rfl (by kernel_rfl) (by kernel_rfl) (by kernel_rfl) (fun _ _ _ h => h) (Or.inl ⟨by rfl, ?_⟩) (by assumption) ?_
      rotate_left
      · intro w0 hSw
        clear hSw
        go_simp
        all_goals (with_reducible rfl)
      simp only [Act.put, List.setIfInBounds_toArray, List.set_cons_zero, List.set_cons_succ]
      refine wpAnyH_take (i := 6) (oi := Oper.mk (some 26) _ _ _ _ _) (v := ?_) rfl (by kernel_rfl) (by kernel_rfl) (by kernel_rfl) (fun _ _ _ h => h) (Or.inl ⟨by rfl, ?_⟩) (by assumption) ?_
      rotate_left
      · intro w0 hSw
        clear hSw
        go_simp
        all_goals (with_reducible rfl)
      simp only [Act.put, List.setIfInBounds_toArray, List.set_cons_zero, List.set_cons_succ]
      refine wpAnyH_take (i := 7) (oi := Oper.mk (some 27) _ _ _ _ _) (v := ?_) rfl (by kernel_rfl) (by kernel_rfl) (by kernel_rfl) (fun _ _ _ h => h) (Or.inl ⟨by rfl, ?_⟩) (by assumption) ?_
      rotate_left
      · intro w0 hSw
        have c4 : w0.cell? ⟨w.heap.size, 4, none⟩ = some (.int .i64 e.many) := cell_of_block hSw 4
        clear hSw
        go_simp
        all_goals (with_reducible rfl)
      simp only [Act.put, List.setIfInBounds_toArray, List.set_cons_zero, List.set_cons_succ]
      refine wpAnyH_take (i := 8) (oi := Oper.mk (some 28) _ _ _ _ _) (v := ?_) rfl (by kernel_rfl) (by kernel_rfl) (by kernel_rfl) (fun _ _ _ h => h) (Or.inl ⟨by rfl, ?_⟩) (by assumption) ?_
      rotate_left
      · intro w0 hSw
        clear hSw
        go_simp
        all_goals (with_reducible rfl)
      simp only [Act.put, List.setIfInBounds_toArray, List.set_cons_zero, List.set_cons_succ]
      refine wpAnyH_take (i := 9) (oi := Oper.mk (some 29) _ _ _ _ _) (v := ?_) rfl (by kernel_rfl) (by kernel_rfl) (by kernel_rfl) (fun _ _ _ h => h) (Or.inl ⟨by rfl, ?_⟩) (by assumption) ?_
      rotate_left
      · intro w0 hSw
        clear hSw
        go_simp
        all_goals (with_reducible rfl)
      simp only [Act.put, List.setIfInBounds_toArray, List.set_cons_zero, List.set_cons_succ]
      refine wpAnyH_take (i := 10) (oi := Oper.mk (some 30) _ _ _ _ _) (v := ?_) rfl (by kernel_rfl) (by kernel_rfl) (by kernel_rfl) (fun _ _ _ h => h) (Or.inl ⟨by rfl, ?_⟩) (by assumption) ?_
      rotate_left
      · intro w0 hSw
        clear hSw
        go_simp
        all_goals (with_reducible rfl)
      simp only [Act.put, List.setIfInBounds_toArray, List.set_cons_zero, List.set_cons_succ]
      refine wpAnyH_ready (rs := [11]) (by kernel_rfl) (by simp) ?_
      refine AllReadyH.cons (o := Oper.mk none _ _ _ _ none) rfl (fun K hK => ?_) AllReadyH.nil
      go_simp
      refine hK.out _ _ (top2 _ _ _) (fun hHeld9 => ?_)
      clear hK K
      (try simp only [Act.put, List.setIfInBounds_toArray, List.set_cons_zero, List.set_cons_succ])
      refine wpAnyH_take (i := 12) (oi := Oper.mk (some 4) _ _ _ _ _) (v := ?_) rfl (by kernel_rfl) (by kernel_rfl) (by kernel_rfl) (fun _ _ _ h => h) (Or.inl ⟨by rfl, ?_⟩) (by assumption) ?_
      rotate_left
      · intro w0 hSw
        clear hSw
        go_simp
        all_goals (with_reducible rfl)
      simp only [Act.put, List.setIfInBounds_toArray, List.set_cons_zero, List.set_cons_succ]
      refine wpAnyH_done (by kernel_rfl) ?_ _
      refine NoPanic.normal ?_
      refine gen_exit (fun X => Hid (X.heap[w.heap.size]? = some (.cells (evL e).toArray 46 (0, 0)) ∧ X.heap[w.heap.size + 1]? = some (.cells ([.int .i64 e.k, .int .i64 0, .int .i64 0, .string ⟨#[]⟩, .int .i64 e.many, .int .i64 0, .string ⟨#[]⟩, .int .i64 0, .int .i64 0, .string ⟨#[]⟩, .int .i64 0, .int .i64 0, .string ⟨#[]⟩, .bool false, .int .i64 0, .int .i64 0, .string ⟨#[]⟩] : List Value).toArray 46 (0, 0)) ∧ Below w.heap.size w X)) ⟨?_, ?_, ?_⟩ ?_
      · exact top2 _ _ _
      · exact top2' _ _ _
      · exact below_drew' (((Below.refl _ _).alloc (Nat.le_refl _) _).alloc (by simp) _)
      intro X HX
      clear hHeld9  hHeld
      go_wp2_with (first
          | (with_reducible show wpList _ _ _ (Oper.mk _ (Op.load 46 (.tmp 1)) _ _ _ _ :: _) _ _; refine we_load rfl (.tmp 1) rfl w.heap.size rfl _ HX.out.1 (evL_ok e) ?_)
          | (with_reducible show wpList _ _ _ (Oper.mk _ (Op.load 46 (.tmp 3)) _ _ _ _ :: _) _ _; refine we_load rfl (.tmp 3) rfl (w.heap.size + 1) rfl _ HX.out.2.1 hOk.out ?_))
      go_ret
      exact ⟨by rw [HR2.out]; first | rfl | simp, HX.out.2.2⟩
  · have HR2 : Hid (rb = (false && eb)) := by show _ = _; rw [HR.out]; simp [m0]
    go_enter Try.func34, Try.ntmps34
    go_wp2_with (first
      | (with_reducible show wpList _ _ _ (Oper.mk _ (Op.build 46 _) _ _ _ _ :: _) _ _; refine we_build rfl (.tmp 6) rfl e.k rfl ?_)
      | (with_reducible show wpList _ _ _ (Oper.mk _ (Op.store 46 _ _) _ _ _ _ :: _) _ _; refine we_store rfl (.tmp 3) (.tmp 7) rfl (w.heap.size + 1) rfl _ rfl (by simp) rfl (onlyL_ok e.k) ?_)
      | fail)
    refine wp_region_noPanic ?_
    refine wp_region_held_drew (S := (fun W => W.heap[w.heap.size]? = some (.cells (evL e).toArray 46 (0, 0)))) (by kernel_rfl) (top2 _ _ _) (fun hHeld => ?_)
    have m0b : decide (0 ≤ e.many) = false := decide_eq_false (by omega)
    refine wpAnyH_take (i := 0) (oi := Oper.mk (some 20) _ _ _ _ _) (v := ?_) rfl (by kernel_rfl) (by kernel_rfl) (by kernel_rfl) (fun _ _ _ h => h) (Or.inl ⟨by rfl, ?_⟩) (by assumption) ?_
    rotate_left
    · intro w0 hSw
      clear hSw
      go_simp
      all_goals (with_reducible rfl)
    simp only [Act.put, List.setIfInBounds_toArray, List.set_cons_zero, List.set_cons_succ]
    refine wpAnyH_take (i := 1) (oi := Oper.mk (some 21) _ _ _ _ _) (v := ?_) rfl (by kernel_rfl) (by kernel_rfl) (by kernel_rfl) (fun _ _ _ h => h) (Or.inl ⟨by rfl, ?_⟩) (by assumption) ?_
    rotate_left
    · intro w0 hSw
      have c4 : w0.cell? ⟨w.heap.size, 4, none⟩ = some (.int .i64 e.many) := cell_of_block hSw 4
      clear hSw
      go_simp
      all_goals (with_reducible rfl)
    simp only [Act.put, List.setIfInBounds_toArray, List.set_cons_zero, List.set_cons_succ]
    refine wpAnyH_take (i := 2) (oi := Oper.mk (some 22) _ _ _ _ _) (v := ?_) rfl (by kernel_rfl) (by kernel_rfl) (by kernel_rfl) (fun _ _ _ h => h) (Or.inl ⟨by rfl, ?_⟩) (by assumption) ?_
    rotate_left
    · intro w0 hSw
      clear hSw
      go_simp
      all_goals (with_reducible rfl)
    simp only [Act.put, List.setIfInBounds_toArray, List.set_cons_zero, List.set_cons_succ]
    refine wpAnyH_take (i := 3) (oi := Oper.mk (some 23) _ _ _ _ _) (v := ?_) rfl (by kernel_rfl) (by kernel_rfl) (by kernel_rfl) (fun _ _ _ h => h) (Or.inl ⟨by rfl, ?_⟩) (by assumption) ?_
    rotate_left
    · intro w0 hSw
      have c4 : w0.cell? ⟨w.heap.size, 4, none⟩ = some (.int .i64 e.many) := cell_of_block hSw 4
      clear hSw
      go_simp
      all_goals (with_reducible rfl)
    simp only [Act.put, List.setIfInBounds_toArray, List.set_cons_zero, List.set_cons_succ]
    refine wpAnyH_take (i := 4) (oi := Oper.mk (some 24) _ _ _ _ _) (v := ?_) rfl (by kernel_rfl) (by kernel_rfl) (by kernel_rfl) (fun _ _ _ h => h) (Or.inl ⟨by rfl, ?_⟩) (by assumption) ?_
    rotate_left
    · intro w0 hSw
      clear hSw
      go_simp
      all_goals (with_reducible rfl)
    simp only [Act.put, List.setIfInBounds_toArray, List.set_cons_zero, List.set_cons_succ]
    refine wpAnyH_take (i := 5) (oi := Oper.mk (some 25) _ _ _ _ _) (v := ?_) rfl (by kernel_rfl) (by kernel_rfl) (by kernel_rfl) (fun _ _ _ h => h) (Or.inl ⟨by rfl, ?_⟩) (by assumption) ?_
    rotate_left
    · intro w0 hSw
      clear hSw
      go_simp
      all_goals (with_reducible rfl)
    simp only [Act.put, List.setIfInBounds_toArray, List.set_cons_zero, List.set_cons_succ]
    refine wpAnyH_take (i := 6) (oi := Oper.mk (some 26) _ _ _ _ _) (v := undef) rfl (by kernel_rfl) (by kernel_rfl) (by kernel_rfl) (fun _ _ _ h => h) (Or.inr ⟨by rfl, rfl⟩) (by assumption) ?_
    simp only [Act.put, List.setIfInBounds_toArray, List.set_cons_zero, List.set_cons_succ]
    refine wpAnyH_take (i := 7) (oi := Oper.mk (some 27) _ _ _ _ _) (v := undef) rfl (by kernel_rfl) (by kernel_rfl) (by kernel_rfl) (fun _ _ _ h => h) (Or.inr ⟨by rfl, rfl⟩) (by assumption) ?_
    simp only [Act.put, List.setIfInBounds_toArray, List.set_cons_zero, List.set_cons_succ]
    refine wpAnyH_take (i := 8) (oi := Oper.mk (some 28) _ _ _ _ _) (v := undef) rfl (by kernel_rfl) (by kernel_rfl) (by kernel_rfl) (fun _ _ _ h => h) (Or.inr ⟨by rfl, rfl⟩) (by assumption) ?_
    simp only [Act.put, List.setIfInBounds_toArray, List.set_cons_zero, List.set_cons_succ]
    refine wpAnyH_take (i := 9) (oi := Oper.mk (some 29) _ _ _ _ _) (v := ?_) rfl (by kernel_rfl) (by kernel_rfl) (by kernel_rfl) (fun _ _ _ h => h) (Or.inl ⟨by rfl, ?_⟩) (by assumption) ?_
    rotate_left
    · intro w0 hSw
      clear hSw
      go_simp
      all_goals (with_reducible rfl)
    simp only [Act.put, List.setIfInBounds_toArray, List.set_cons_zero, List.set_cons_succ]
    refine wpAnyH_take (i := 10) (oi := Oper.mk (some 30) _ _ _ _ _) (v := ?_) rfl (by kernel_rfl) (by kernel_rfl) (by kernel_rfl) (fun _ _ _ h => h) (Or.inl ⟨by rfl, ?_⟩) (by assumption) ?_
    rotate_left
    · intro w0 hSw
      clear hSw
      go_simp
      all_goals (with_reducible rfl)
    simp only [Act.put, List.setIfInBounds_toArray, List.set_cons_zero, List.set_cons_succ]
    refine wpAnyH_ready (rs := [11]) (by kernel_rfl) (by simp) ?_
    refine AllReadyH.cons (o := Oper.mk none _ _ _ _ none) rfl (fun K hK => ?_) AllReadyH.nil
    go_simp
    refine hK.out _ _ (top2 _ _ _) (fun hHeld9 => ?_)
    clear hK K
    (try simp only [Act.put, List.setIfInBounds_toArray, List.set_cons_zero, List.set_cons_succ])
    refine wpAnyH_take (i := 12) (oi := Oper.mk (some 4) _ _ _ _ _) (v := ?_) rfl (by kernel_rfl) (by kernel_rfl) (by kernel_rfl) (fun _ _ _ h => h) (Or.inl ⟨by rfl, ?_⟩) (by assumption) ?_
    rotate_left
    · intro w0 hSw
      clear hSw
      go_simp
      all_goals (with_reducible rfl)
    simp only [Act.put, List.setIfInBounds_toArray, List.set_cons_zero, List.set_cons_succ]
    refine wpAnyH_done (by kernel_rfl) ?_ _
    refine NoPanic.normal ?_
    refine gen_exit (fun X => Hid (X.heap[w.heap.size]? = some (.cells (evL e).toArray 46 (0, 0)) ∧ X.heap[w.heap.size + 1]? = some (.cells ([.int .i64 e.k, .int .i64 0, .int .i64 0, .string ⟨#[]⟩, .int .i64 e.many, .int .i64 0, .string ⟨#[]⟩, .int .i64 0, .int .i64 0, .string ⟨#[]⟩, .int .i64 0, .int .i64 0, .string ⟨#[]⟩, .bool false, .int .i64 0, .int .i64 0, .string ⟨#[]⟩] : List Value).toArray 46 (0, 0)) ∧ Below w.heap.size w X)) ⟨?_, ?_, ?_⟩ ?_
    · exact top2 _ _ _
    · exact top2' _ _ _
    · exact below_drew' (((Below.refl _ _).alloc (Nat.le_refl _) _).alloc (by simp) _)
    intro X HX
    clear hHeld9  hHeld
    go_wp2_with (first
        | (with_reducible show wpList _ _ _ (Oper.mk _ (Op.load 46 (.tmp 1)) _ _ _ _ :: _) _ _; refine we_load rfl (.tmp 1) rfl w.heap.size rfl _ HX.out.1 (evL_ok e) ?_)
        | (with_reducible show wpList _ _ _ (Oper.mk _ (Op.load 46 (.tmp 3)) _ _ _ _ :: _) _ _; refine we_load rfl (.tmp 3) rfl (w.heap.size + 1) rfl _ HX.out.2.1 hOk.out ?_))
    go_ret
    exact ⟨by rw [HR2.out]; first | rfl | simp, HX.out.2.2⟩
end Go.Proofs.Ythimglgjeibaoaa
