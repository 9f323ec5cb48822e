/- Joined: ImP ImH. -/
import Derived.Test.YthimglgjeibaoaaImK
/- What the program knows of a history, and what it tells of it. -/
namespace Go.Proofs.Ythimglgjeibaoaa
open Go.RowKit
set_option linter.unusedVariables false
set_option linter.unusedSimpArgs false
theorem built_past : Try.prog.built 50 [] = some (pastC Pl.Past.none) := by kernel_rfl
set_option maxRecDepth 100000 in
theorem wb61 {ops : Array Oper} {rest : List Oper} {o : Oper} {a : Act} {W : World} {Q : Exit → Act → World → Prop} (hgd : o.guard = none) (ho : o.op = .build 50 #[])
    (h : wpList Try.prog ops Q rest (a.put o.dst (.agg (pastC Pl.Past.none))) W) : wpList Try.prog ops Q (o :: rest) a W := by
  have hb : Try.prog.built 50 ((#[] : Array (Nat × Operand)).map fun (i, x) => (i, a.eval x)).toList = some (pastC Pl.Past.none) := by
    simp only [List.map_toArray, List.map_nil]
    exact built_past
  refine wpList_build hgd 50 #[] ho (by rw [hb]; rfl) ?_
  rw [hb]
  exact h
theorem inv_none : Inv 0 Pl.Past.none := ⟨by simp [Pl.Past.none], ⟨by simp [Pl.Past.none], by simp [Pl.Past.none]⟩, ⟨by simp [Pl.Past.none], by simp [Pl.Past.none]⟩, ⟨by simp [Pl.Past.none], by simp [Pl.Past.none]⟩, by simp [Pl.Past.none], by simp [Pl.Past.none], by simp [Pl.Past.none]⟩
theorem walk_size (l : List Ev) : ∀ (h : Pl.Past), h.opn.length = 40 → (Pl.walkP Pl.evB h l).1.opn.length = 40 := by
  induction l with
  | nil => intro h hz; exact hz
  | cons e r ih =>
    intro h hz
    have hz' : (Pl.pwith Pl.evB h e).1.opn.length = 40 := by
      unfold Pl.pwith
      split
      · exact hz
      · split
        · exact hz
        · split
          · simp [Pl.withCmd, hz]
          · split
            · unfold Pl.withCame; split <;> simp [hz]
            · exact hz
    unfold Pl.walkP
    split
    · exact ih _ hz'
    · exact hz'
theorem wk_x0 {w X1 : World} {o : Obj} (hB1 : Below (w.alloc o).heap.size (w.alloc o) X1) : X1.heap[w.heap.size]? = some o := by
  have h := top1 w o
  exact (hB1.block _ (Array.getElem?_eq_some_iff.1 h).1).trans h
set_option maxRecDepth 100000 in
set_option maxHeartbeats 3200000 in
theorem pastOf_any (l : List Ev) (hwf : ∀ e ∈ l, e.Wf) (hN : l.length ≤ 1048576) (v : Value) (w : World) (hr : EvRow w l v) :
    Calls Try.prog 33 #[v] w fun x w' => x = .returned (.tuple #[pastV (Pl.pastB Pl.evB l).1, .bool (Pl.pastB Pl.evB l).2]) ∧ Below w.heap.size w w' := by
  have HRW := hide hr
  obtain ⟨ad, cap, rfl, hc, hmx, hx⟩ := hr
  unfold maxLen at hmx
  clear hx
  unfold pastV
  by_cases hl : 200 < l.length
  · have HE : Hid (Pl.pastB Pl.evB l = (Pl.Past.none, false)) := by show _ = _; unfold Pl.pastB; rw [if_pos hl]
    rw [HE.out]
    have hnk := hide (pastC_ok Pl.Past.none (by simp [Pl.Past.none]))
    have hl' : (200 : Int) < (l.length : Int) := by omega
    clear HE hl
    go_enter Try.func33, Try.ntmps33
    go_wp2_with (first
      | (with_reducible show wpList _ _ _ (Oper.mk _ (Op.build 50 _) _ _ _ _ :: _) _ _; refine wb61 rfl rfl ?_)
      | (with_reducible show wpList _ _ _ (Oper.mk _ (Op.store 50 _ _) _ _ _ _ :: _) _ _; refine ws61top rfl (.tmp 2) (.tmp 9) rfl rfl _ rfl rfl hnk.out ?_))
    refine bodyPost_ret (results_past Try.results33 _ _ w.heap.size _ rfl (top1 _ _) hnk.out) rfl ⟨rfl, (Below.refl _ _).alloc (Nat.le_refl _) _⟩
  · have HF : Hid (Pl.pastB Pl.evB l = ((Pl.walkP Pl.evB Pl.Past.none l).1, (Pl.walkP Pl.evB Pl.Past.none l).2 && (decide (0 < (Pl.walkP Pl.evB Pl.Past.none l).1.events) && ((Pl.walkP Pl.evB Pl.Past.none l).1.due == 0)))) := by
      show _ = _; unfold Pl.pastB; rw [if_neg hl]
    have hwk := hide (fun W hW => walk_any l hwf Pl.Past.none 0 inv_none (by omega) (.slice ad l.length cap) W hW)
    unfold pastV at hwk
    have hz := walk_size l Pl.Past.none (by simp [Pl.Past.none])
    have hok := hide (pastC_ok _ hz)
    have c0 := pastC_0 (Pl.walkP Pl.evB Pl.Past.none l).1
    have c4 := pastC_4 (Pl.walkP Pl.evB Pl.Past.none l).1
    have hF1 : (Pl.pastB Pl.evB l).1 = (Pl.walkP Pl.evB Pl.Past.none l).1 := by rw [HF.out]
    have hF2 : (Pl.pastB Pl.evB l).2 = ((Pl.walkP Pl.evB Pl.Past.none l).2 && (decide (0 < (Pl.walkP Pl.evB Pl.Past.none l).1.events) && ((Pl.walkP Pl.evB Pl.Past.none l).1.due == 0))) := by rw [HF.out]
    rw [hF1]
    clear HF hF1 hz
    have HF := hide hF2
    clear hF2
    generalize (Pl.pastB Pl.evB l).2 = rb at *
    generalize (Pl.walkP Pl.evB Pl.Past.none l).1 = hh at *
    generalize (Pl.walkP Pl.evB Pl.Past.none l).2 = okb at *
    generalize pastC hh = C at *
    generalize hh.events = ev at *
    generalize hh.due = du at *
    have hl' : ¬ (200 : Int) < (l.length : Int) := by omega
    clear hl hwf
    go_enter Try.func33, Try.ntmps33
    go_wp2_with (first
      | (with_reducible show wpList _ _ _ (Oper.mk _ (Op.build 50 _) _ _ _ _ :: _) _ _; refine wb61 rfl rfl ?_)
      | fail)
    refine (hwk.out _ (HRW.out.later ((Below.refl _ _).alloc (Nat.le_refl _) _))).mono ?_
    rintro x1 X1 ⟨rfl, hB1⟩
    have hZ0 := wk_x0 hB1
    have hB0 := below_box1 hB1
    obtain ⟨Z, hZ0, hZ⟩ : ∃ Z, X1.heap[w.heap.size]? = some (.cells Z 50 (0, 0)) ∧ Z.size = 47 := ⟨_, hZ0, rfl⟩
    have HZ0 := hide hZ0
    have HZ := hide hZ
    have HB0 := hide hB0
    have hlt : w.heap.size < X1.heap.size := (Array.getElem?_eq_some_iff.1 hZ0).1
    have HLT := hide hlt
    clear hB1 hwk hZ0 hB0 hZ hlt
    go_wp2_with (first
      | (with_reducible show wpList _ _ _ (Oper.mk _ (Op.store 50 (.tmp 4) _) _ _ _ _ :: _) _ _; refine ws61top rfl (.tmp 4) (.tmp 14) rfl rfl _ rfl rfl hok.out ?_)
      | fail)
    refine gen_code (fun X => X.heap[X1.heap.size]? = some (.cells C 50 (0, 0)) ∧ X.heap[w.heap.size]? = some (.cells Z 50 (0, 0)) ∧ Below w.heap.size w X) ⟨top1 _ _, alloc_keeps HZ0.out, HB0.out.alloc (by have := HLT.out; omega) _⟩ ?_
    rintro X ⟨hX4, hX0, hXB⟩
    have hX0d : X.drew.heap[w.heap.size]? = some (.cells Z 50 (0, 0)) := hX0
    have x0 := (cell_of_block hX4 0).trans c0
    have x4 := (cell_of_block hX4 4).trans c4
    have hZ := HZ.out
    have hlt := HLT.out
    cases okb
    · refine wp_region_noPanic ?_
      refine wp_region_held_drew (S := (fun W => W.heap[X1.heap.size]? = some (.cells C 50 (0, 0)) ∧ W.cell? ⟨X1.heap.size, 0, none⟩ = some (.int .i64 ev) ∧ W.cell? ⟨X1.heap.size, 4, none⟩ = some (.int .i64 du))) (by kernel_rfl) ⟨hX4, x0, x4⟩ (fun hHeld => ?_)
      refine wpAnyH_take (i := 0) (oi := Oper.mk (some 16) _ _ _ _ _) (v := .agg C) rfl (by kernel_rfl) (by kernel_rfl) (by kernel_rfl) (fun _ _ _ h => h) (yl61 (by rfl) (.tmp 4) rfl X1.heap.size rfl C (fun _ h => h.1) hok.out) (by assumption) ?_
      simp only [Act.put, List.setIfInBounds_toArray, List.set_cons_zero, List.set_cons_succ]
      refine wpAnyH_take (i := 1) (oi := Oper.mk (some 17) _ _ _ _ _) (v := ?_) rfl (by kernel_rfl) (by kernel_rfl) (by kernel_rfl) (fun _ _ _ h => h) (Or.inl ⟨by rfl, ?_⟩) (by assumption) ?_
      rotate_left
      · intro w hSw
        obtain ⟨hs0, hs1, hs2⟩ := hSw
        clear hs0
        go_simp
        all_goals (with_reducible rfl)
      simp only [Act.put, List.setIfInBounds_toArray, List.set_cons_zero, List.set_cons_succ]
      refine wpAnyH_take (i := 2) (oi := Oper.mk (some 18) _ _ _ _ _) (v := ?_) rfl (by kernel_rfl) (by kernel_rfl) (by kernel_rfl) (fun _ _ _ h => h) (Or.inl ⟨by rfl, ?_⟩) (by assumption) ?_
      rotate_left
      · intro w hSw
        obtain ⟨hs0, hs1, hs2⟩ := hSw
        clear hs0
        go_simp
        all_goals (with_reducible rfl)
      simp only [Act.put, List.setIfInBounds_toArray, List.set_cons_zero, List.set_cons_succ]
      refine wpAnyH_take (i := 3) (oi := Oper.mk (some 19) _ _ _ _ _) (v := undef) rfl (by kernel_rfl) (by kernel_rfl) (by kernel_rfl) (fun _ _ _ h => h) (Or.inr ⟨by rfl, rfl⟩) (by assumption) ?_
      simp only [Act.put, List.setIfInBounds_toArray, List.set_cons_zero, List.set_cons_succ]
      refine wpAnyH_take (i := 4) (oi := Oper.mk (some 20) _ _ _ _ _) (v := undef) rfl (by kernel_rfl) (by kernel_rfl) (by kernel_rfl) (fun _ _ _ h => h) (Or.inr ⟨by rfl, rfl⟩) (by assumption) ?_
      simp only [Act.put, List.setIfInBounds_toArray, List.set_cons_zero, List.set_cons_succ]
      refine wpAnyH_take (i := 5) (oi := Oper.mk (some 21) _ _ _ _ _) (v := undef) rfl (by kernel_rfl) (by kernel_rfl) (by kernel_rfl) (fun _ _ _ h => h) (Or.inr ⟨by rfl, rfl⟩) (by assumption) ?_
      simp only [Act.put, List.setIfInBounds_toArray, List.set_cons_zero, List.set_cons_succ]
      refine wpAnyH_take (i := 6) (oi := Oper.mk (some 22) _ _ _ _ _) (v := ?_) rfl (by kernel_rfl) (by kernel_rfl) (by kernel_rfl) (fun _ _ _ h => h) (Or.inl ⟨by rfl, ?_⟩) (by assumption) ?_
      rotate_left
      · intro w hSw
        obtain ⟨hs0, hs1, hs2⟩ := hSw
        clear hs0
        go_simp
        all_goals (with_reducible rfl)
      simp only [Act.put, List.setIfInBounds_toArray, List.set_cons_zero, List.set_cons_succ]
      refine wpAnyH_take (i := 7) (oi := Oper.mk (some 23) _ _ _ _ _) (v := ?_) rfl (by kernel_rfl) (by kernel_rfl) (by kernel_rfl) (fun _ _ _ h => h) (Or.inl ⟨by rfl, ?_⟩) (by assumption) ?_
      rotate_left
      · intro w hSw
        obtain ⟨hs0, hs1, hs2⟩ := hSw
        clear hs0
        go_simp
        all_goals (with_reducible rfl)
      simp only [Act.put, List.setIfInBounds_toArray, List.set_cons_zero, List.set_cons_succ]
      refine wpAnyH_take (i := 8) (oi := Oper.mk (some 24) _ _ _ _ _) (v := undef) rfl (by kernel_rfl) (by kernel_rfl) (by kernel_rfl) (fun _ _ _ h => h) (Or.inr ⟨by rfl, rfl⟩) (by assumption) ?_
      simp only [Act.put, List.setIfInBounds_toArray, List.set_cons_zero, List.set_cons_succ]
      refine wpAnyH_take (i := 9) (oi := Oper.mk (some 25) _ _ _ _ _) (v := undef) rfl (by kernel_rfl) (by kernel_rfl) (by kernel_rfl) (fun _ _ _ h => h) (Or.inr ⟨by rfl, rfl⟩) (by assumption) ?_
      simp only [Act.put, List.setIfInBounds_toArray, List.set_cons_zero, List.set_cons_succ]
      refine wpAnyH_take (i := 10) (oi := Oper.mk (some 26) _ _ _ _ _) (v := undef) rfl (by kernel_rfl) (by kernel_rfl) (by kernel_rfl) (fun _ _ _ h => h) (Or.inr ⟨by rfl, rfl⟩) (by assumption) ?_
      simp only [Act.put, List.setIfInBounds_toArray, List.set_cons_zero, List.set_cons_succ]
      refine wpAnyH_take (i := 11) (oi := Oper.mk (some 27) _ _ _ _ _) (v := ?_) rfl (by kernel_rfl) (by kernel_rfl) (by kernel_rfl) (fun _ _ _ h => h) (Or.inl ⟨by rfl, ?_⟩) (by assumption) ?_
      rotate_left
      · intro w hSw
        obtain ⟨hs0, hs1, hs2⟩ := hSw
        clear hs0
        go_simp
        all_goals (with_reducible rfl)
      simp only [Act.put, List.setIfInBounds_toArray, List.set_cons_zero, List.set_cons_succ]
      refine wpAnyH_ready (rs := [12]) (by kernel_rfl) (by simp) ?_
      refine AllReadyH.cons (o := Oper.mk none (Op.store 50 (.tmp 2) (.tmp 16)) _ _ _ none) rfl (fun K hK => ?_) AllReadyH.nil
      refine st61s rfl (.tmp 2) (.tmp 16) rfl w.heap.size rfl C rfl Z hX0d hZ hok.out ?_
      intro W9 hW9
      refine hK.out _ _ ?_ (fun hHeld9 => ?_)
      · (rw [hW9.out]; exact ⟨(setRow_other _ _ _ _ (by omega)).trans hX4, (cell_of_block ((setRow_other _ _ _ _ (by omega)).trans hX4) 0).trans c0, (cell_of_block ((setRow_other _ _ _ _ (by omega)).trans hX4) 4).trans c4⟩)
      clear hK K
      (try simp only [Act.put, List.setIfInBounds_toArray, List.set_cons_zero, List.set_cons_succ])
      refine wpAnyH_take (i := 13) (oi := Oper.mk (some 3) _ _ _ _ _) (v := ?_) rfl (by kernel_rfl) (by kernel_rfl) (by kernel_rfl) (fun _ _ _ h => h) (Or.inl ⟨by rfl, ?_⟩) (by assumption) ?_
      rotate_left
      · intro w hSw
        obtain ⟨hs0, hs1, hs2⟩ := hSw
        clear hs0
        go_simp
        all_goals (with_reducible rfl)
      simp only [Act.put, List.setIfInBounds_toArray, List.set_cons_zero, List.set_cons_succ]
      refine wpAnyH_done (by kernel_rfl) ?_ _
      refine NoPanic.normal ?_
      go_wp2_with fail
      refine bodyPost_ret (results_past Try.results33 _ W9 w.heap.size C rfl (by rw [hW9.out]; exact setRow_heap _ _ _ _ _ _ hX0) hok.out) rfl ⟨?_, ?_⟩
      · rw [HF.out]; first | rfl | simp [*]
      · rw [hW9.out]; exact below_setRow (below_drew' hXB) (by omega) _
    · by_cases hev : 0 < ev
      · have hevb : decide (0 < ev) = true := decide_eq_true hev
        refine wp_region_noPanic ?_
        refine wp_region_held_drew (S := (fun W => W.heap[X1.heap.size]? = some (.cells C 50 (0, 0)) ∧ W.cell? ⟨X1.heap.size, 0, none⟩ = some (.int .i64 ev) ∧ W.cell? ⟨X1.heap.size, 4, none⟩ = some (.int .i64 du))) (by kernel_rfl) ⟨hX4, x0, x4⟩ (fun hHeld => ?_)
        refine wpAnyH_take (i := 0) (oi := Oper.mk (some 16) _ _ _ _ _) (v := .agg C) rfl (by kernel_rfl) (by kernel_rfl) (by kernel_rfl) (fun _ _ _ h => h) (yl61 (by rfl) (.tmp 4) rfl X1.heap.size rfl C (fun _ h => h.1) hok.out) (by assumption) ?_
        simp only [Act.put, List.setIfInBounds_toArray, List.set_cons_zero, List.set_cons_succ]
        refine wpAnyH_take (i := 1) (oi := Oper.mk (some 17) _ _ _ _ _) (v := ?_) rfl (by kernel_rfl) (by kernel_rfl) (by kernel_rfl) (fun _ _ _ h => h) (Or.inl ⟨by rfl, ?_⟩) (by assumption) ?_
        rotate_left
        · intro w hSw
          obtain ⟨hs0, hs1, hs2⟩ := hSw
          clear hs0
          go_simp
          all_goals (with_reducible rfl)
        simp only [Act.put, List.setIfInBounds_toArray, List.set_cons_zero, List.set_cons_succ]
        refine wpAnyH_take (i := 2) (oi := Oper.mk (some 18) _ _ _ _ _) (v := ?_) rfl (by kernel_rfl) (by kernel_rfl) (by kernel_rfl) (fun _ _ _ h => h) (Or.inl ⟨by rfl, ?_⟩) (by assumption) ?_
        rotate_left
        · intro w hSw
          obtain ⟨hs0, hs1, hs2⟩ := hSw
          clear hs0
          go_simp
          all_goals (with_reducible rfl)
        simp only [Act.put, List.setIfInBounds_toArray, List.set_cons_zero, List.set_cons_succ]
        refine wpAnyH_take (i := 3) (oi := Oper.mk (some 19) _ _ _ _ _) (v := ?_) rfl (by kernel_rfl) (by kernel_rfl) (by kernel_rfl) (fun _ _ _ h => h) (Or.inl ⟨by rfl, ?_⟩) (by assumption) ?_
        rotate_left
        · intro w hSw
          obtain ⟨hs0, hs1, hs2⟩ := hSw
          clear hs0
          go_simp
          all_goals (with_reducible rfl)
        simp only [Act.put, List.setIfInBounds_toArray, List.set_cons_zero, List.set_cons_succ]
        refine wpAnyH_take (i := 4) (oi := Oper.mk (some 20) _ _ _ _ _) (v := ?_) rfl (by kernel_rfl) (by kernel_rfl) (by kernel_rfl) (fun _ _ _ h => h) (Or.inl ⟨by rfl, ?_⟩) (by assumption) ?_
        rotate_left
        · intro w hSw
          obtain ⟨hs0, hs1, hs2⟩ := hSw
          clear hs0
          go_simp
          all_goals (with_reducible rfl)
        simp only [Act.put, List.setIfInBounds_toArray, List.set_cons_zero, List.set_cons_succ]
        refine wpAnyH_take (i := 5) (oi := Oper.mk (some 21) _ _ _ _ _) (v := ?_) rfl (by kernel_rfl) (by kernel_rfl) (by kernel_rfl) (fun _ _ _ h => h) (Or.inl ⟨by rfl, ?_⟩) (by assumption) ?_
        rotate_left
        · intro w hSw
          obtain ⟨hs0, hs1, hs2⟩ := hSw
          clear hs0
          go_simp
          all_goals (with_reducible rfl)
        simp only [Act.put, List.setIfInBounds_toArray, List.set_cons_zero, List.set_cons_succ]
        refine wpAnyH_take (i := 6) (oi := Oper.mk (some 22) _ _ _ _ _) (v := ?_) rfl (by kernel_rfl) (by kernel_rfl) (by kernel_rfl) (fun _ _ _ h => h) (Or.inl ⟨by rfl, ?_⟩) (by assumption) ?_
        rotate_left
        · intro w hSw
          obtain ⟨hs0, hs1, hs2⟩ := hSw
          clear hs0
          go_simp
          all_goals (with_reducible rfl)
        simp only [Act.put, List.setIfInBounds_toArray, List.set_cons_zero, List.set_cons_succ]
        refine wpAnyH_take (i := 7) (oi := Oper.mk (some 23) _ _ _ _ _) (v := ?_) rfl (by kernel_rfl) (by kernel_rfl) (by kernel_rfl) (fun _ _ _ h => h) (Or.inl ⟨by rfl, ?_⟩) (by assumption) ?_
        rotate_left
        · intro w hSw
          obtain ⟨hs0, hs1, hs2⟩ := hSw
          clear hs0
          go_simp
          all_goals (with_reducible rfl)
        simp only [Act.put, List.setIfInBounds_toArray, List.set_cons_zero, List.set_cons_succ]
        refine wpAnyH_take (i := 8) (oi := Oper.mk (some 24) _ _ _ _ _) (v := ?_) rfl (by kernel_rfl) (by kernel_rfl) (by kernel_rfl) (fun _ _ _ h => h) (Or.inl ⟨by rfl, ?_⟩) (by assumption) ?_
        rotate_left
        · intro w hSw
          obtain ⟨hs0, hs1, hs2⟩ := hSw
          clear hs0
          go_simp
          all_goals (with_reducible rfl)
        simp only [Act.put, List.setIfInBounds_toArray, List.set_cons_zero, List.set_cons_succ]
        refine wpAnyH_take (i := 9) (oi := Oper.mk (some 25) _ _ _ _ _) (v := ?_) rfl (by kernel_rfl) (by kernel_rfl) (by kernel_rfl) (fun _ _ _ h => h) (Or.inl ⟨by rfl, ?_⟩) (by assumption) ?_
        rotate_left
        · intro w hSw
          obtain ⟨hs0, hs1, hs2⟩ := hSw
          clear hs0
          go_simp
          all_goals (with_reducible rfl)
        simp only [Act.put, List.setIfInBounds_toArray, List.set_cons_zero, List.set_cons_succ]
        refine wpAnyH_take (i := 10) (oi := Oper.mk (some 26) _ _ _ _ _) (v := ?_) rfl (by kernel_rfl) (by kernel_rfl) (by kernel_rfl) (fun _ _ _ h => h) (Or.inl ⟨by rfl, ?_⟩) (by assumption) ?_
        rotate_left
        · intro w hSw
          obtain ⟨hs0, hs1, hs2⟩ := hSw
          clear hs0
          go_simp
          all_goals (with_reducible rfl)
        simp only [Act.put, List.setIfInBounds_toArray, List.set_cons_zero, List.set_cons_succ]
        refine wpAnyH_take (i := 11) (oi := Oper.mk (some 27) _ _ _ _ _) (v := ?_) rfl (by kernel_rfl) (by kernel_rfl) (by kernel_rfl) (fun _ _ _ h => h) (Or.inl ⟨by rfl, ?_⟩) (by assumption) ?_
        rotate_left
        · intro w hSw
          obtain ⟨hs0, hs1, hs2⟩ := hSw
          clear hs0
          go_simp
          all_goals (with_reducible rfl)
        simp only [Act.put, List.setIfInBounds_toArray, List.set_cons_zero, List.set_cons_succ]
        refine wpAnyH_ready (rs := [12]) (by kernel_rfl) (by simp) ?_
        refine AllReadyH.cons (o := Oper.mk none (Op.store 50 (.tmp 2) (.tmp 16)) _ _ _ none) rfl (fun K hK => ?_) AllReadyH.nil
        refine st61s rfl (.tmp 2) (.tmp 16) rfl w.heap.size rfl C rfl Z hX0d hZ hok.out ?_
        intro W9 hW9
        refine hK.out _ _ ?_ (fun hHeld9 => ?_)
        · (rw [hW9.out]; exact ⟨(setRow_other _ _ _ _ (by omega)).trans hX4, (cell_of_block ((setRow_other _ _ _ _ (by omega)).trans hX4) 0).trans c0, (cell_of_block ((setRow_other _ _ _ _ (by omega)).trans hX4) 4).trans c4⟩)
        clear hK K
        (try simp only [Act.put, List.setIfInBounds_toArray, List.set_cons_zero, List.set_cons_succ])
        refine wpAnyH_take (i := 13) (oi := Oper.mk (some 3) _ _ _ _ _) (v := ?_) rfl (by kernel_rfl) (by kernel_rfl) (by kernel_rfl) (fun _ _ _ h => h) (Or.inl ⟨by rfl, ?_⟩) (by assumption) ?_
        rotate_left
        · intro w hSw
          obtain ⟨hs0, hs1, hs2⟩ := hSw
          clear hs0
          go_simp
          all_goals (with_reducible rfl)
        simp only [Act.put, List.setIfInBounds_toArray, List.set_cons_zero, List.set_cons_succ]
        refine wpAnyH_done (by kernel_rfl) ?_ _
        refine NoPanic.normal ?_
        go_wp2_with fail
        refine bodyPost_ret (results_past Try.results33 _ W9 w.heap.size C rfl (by rw [hW9.out]; exact setRow_heap _ _ _ _ _ _ hX0) hok.out) rfl ⟨?_, ?_⟩
        · rw [HF.out]; first | rfl | simp [*]
        · rw [hW9.out]; exact below_setRow (below_drew' hXB) (by omega) _
      · have hevb : decide (0 < ev) = false := decide_eq_false hev
        refine wp_region_noPanic ?_
        refine wp_region_held_drew (S := (fun W => W.heap[X1.heap.size]? = some (.cells C 50 (0, 0)) ∧ W.cell? ⟨X1.heap.size, 0, none⟩ = some (.int .i64 ev) ∧ W.cell? ⟨X1.heap.size, 4, none⟩ = some (.int .i64 du))) (by kernel_rfl) ⟨hX4, x0, x4⟩ (fun hHeld => ?_)
        refine wpAnyH_take (i := 0) (oi := Oper.mk (some 16) _ _ _ _ _) (v := .agg C) rfl (by kernel_rfl) (by kernel_rfl) (by kernel_rfl) (fun _ _ _ h => h) (yl61 (by rfl) (.tmp 4) rfl X1.heap.size rfl C (fun _ h => h.1) hok.out) (by assumption) ?_
        simp only [Act.put, List.setIfInBounds_toArray, List.set_cons_zero, List.set_cons_succ]
        refine wpAnyH_take (i := 1) (oi := Oper.mk (some 17) _ _ _ _ _) (v := ?_) rfl (by kernel_rfl) (by kernel_rfl) (by kernel_rfl) (fun _ _ _ h => h) (Or.inl ⟨by rfl, ?_⟩) (by assumption) ?_
        rotate_left
        · intro w hSw
          obtain ⟨hs0, hs1, hs2⟩ := hSw
          clear hs0
          go_simp
          all_goals (with_reducible rfl)
        simp only [Act.put, List.setIfInBounds_toArray, List.set_cons_zero, List.set_cons_succ]
        refine wpAnyH_take (i := 2) (oi := Oper.mk (some 18) _ _ _ _ _) (v := ?_) rfl (by kernel_rfl) (by kernel_rfl) (by kernel_rfl) (fun _ _ _ h => h) (Or.inl ⟨by rfl, ?_⟩) (by assumption) ?_
        rotate_left
        · intro w hSw
          obtain ⟨hs0, hs1, hs2⟩ := hSw
          clear hs0
          go_simp
          all_goals (with_reducible rfl)
        simp only [Act.put, List.setIfInBounds_toArray, List.set_cons_zero, List.set_cons_succ]
        refine wpAnyH_take (i := 3) (oi := Oper.mk (some 19) _ _ _ _ _) (v := ?_) rfl (by kernel_rfl) (by kernel_rfl) (by kernel_rfl) (fun _ _ _ h => h) (Or.inl ⟨by rfl, ?_⟩) (by assumption) ?_
        rotate_left
        · intro w hSw
          obtain ⟨hs0, hs1, hs2⟩ := hSw
          clear hs0
          go_simp
          all_goals (with_reducible rfl)
        simp only [Act.put, List.setIfInBounds_toArray, List.set_cons_zero, List.set_cons_succ]
        refine wpAnyH_take (i := 4) (oi := Oper.mk (some 20) _ _ _ _ _) (v := ?_) rfl (by kernel_rfl) (by kernel_rfl) (by kernel_rfl) (fun _ _ _ h => h) (Or.inl ⟨by rfl, ?_⟩) (by assumption) ?_
        rotate_left
        · intro w hSw
          obtain ⟨hs0, hs1, hs2⟩ := hSw
          clear hs0
          go_simp
          all_goals (with_reducible rfl)
        simp only [Act.put, List.setIfInBounds_toArray, List.set_cons_zero, List.set_cons_succ]
        refine wpAnyH_take (i := 5) (oi := Oper.mk (some 21) _ _ _ _ _) (v := ?_) rfl (by kernel_rfl) (by kernel_rfl) (by kernel_rfl) (fun _ _ _ h => h) (Or.inl ⟨by rfl, ?_⟩) (by assumption) ?_
        rotate_left
        · intro w hSw
          obtain ⟨hs0, hs1, hs2⟩ := hSw
          clear hs0
          go_simp
          all_goals (with_reducible rfl)
        simp only [Act.put, List.setIfInBounds_toArray, List.set_cons_zero, List.set_cons_succ]
        refine wpAnyH_take (i := 6) (oi := Oper.mk (some 22) _ _ _ _ _) (v := ?_) rfl (by kernel_rfl) (by kernel_rfl) (by kernel_rfl) (fun _ _ _ h => h) (Or.inl ⟨by rfl, ?_⟩) (by assumption) ?_
        rotate_left
        · intro w hSw
          obtain ⟨hs0, hs1, hs2⟩ := hSw
          clear hs0
          go_simp
          all_goals (with_reducible rfl)
        simp only [Act.put, List.setIfInBounds_toArray, List.set_cons_zero, List.set_cons_succ]
        refine wpAnyH_take (i := 7) (oi := Oper.mk (some 23) _ _ _ _ _) (v := ?_) rfl (by kernel_rfl) (by kernel_rfl) (by kernel_rfl) (fun _ _ _ h => h) (Or.inl ⟨by rfl, ?_⟩) (by assumption) ?_
        rotate_left
        · intro w hSw
          obtain ⟨hs0, hs1, hs2⟩ := hSw
          clear hs0
          go_simp
          all_goals (with_reducible rfl)
        simp only [Act.put, List.setIfInBounds_toArray, List.set_cons_zero, List.set_cons_succ]
        refine wpAnyH_take (i := 8) (oi := Oper.mk (some 24) _ _ _ _ _) (v := undef) rfl (by kernel_rfl) (by kernel_rfl) (by kernel_rfl) (fun _ _ _ h => h) (Or.inr ⟨by rfl, rfl⟩) (by assumption) ?_
        simp only [Act.put, List.setIfInBounds_toArray, List.set_cons_zero, List.set_cons_succ]
        refine wpAnyH_take (i := 9) (oi := Oper.mk (some 25) _ _ _ _ _) (v := undef) rfl (by kernel_rfl) (by kernel_rfl) (by kernel_rfl) (fun _ _ _ h => h) (Or.inr ⟨by rfl, rfl⟩) (by assumption) ?_
        simp only [Act.put, List.setIfInBounds_toArray, List.set_cons_zero, List.set_cons_succ]
        refine wpAnyH_take (i := 10) (oi := Oper.mk (some 26) _ _ _ _ _) (v := undef) rfl (by kernel_rfl) (by kernel_rfl) (by kernel_rfl) (fun _ _ _ h => h) (Or.inr ⟨by rfl, rfl⟩) (by assumption) ?_
        simp only [Act.put, List.setIfInBounds_toArray, List.set_cons_zero, List.set_cons_succ]
        refine wpAnyH_take (i := 11) (oi := Oper.mk (some 27) _ _ _ _ _) (v := ?_) rfl (by kernel_rfl) (by kernel_rfl) (by kernel_rfl) (fun _ _ _ h => h) (Or.inl ⟨by rfl, ?_⟩) (by assumption) ?_
        rotate_left
        · intro w hSw
          obtain ⟨hs0, hs1, hs2⟩ := hSw
          clear hs0
          go_simp
          all_goals (with_reducible rfl)
        simp only [Act.put, List.setIfInBounds_toArray, List.set_cons_zero, List.set_cons_succ]
        refine wpAnyH_ready (rs := [12]) (by kernel_rfl) (by simp) ?_
        refine AllReadyH.cons (o := Oper.mk none (Op.store 50 (.tmp 2) (.tmp 16)) _ _ _ none) rfl (fun K hK => ?_) AllReadyH.nil
        refine st61s rfl (.tmp 2) (.tmp 16) rfl w.heap.size rfl C rfl Z hX0d hZ hok.out ?_
        intro W9 hW9
        refine hK.out _ _ ?_ (fun hHeld9 => ?_)
        · (rw [hW9.out]; exact ⟨(setRow_other _ _ _ _ (by omega)).trans hX4, (cell_of_block ((setRow_other _ _ _ _ (by omega)).trans hX4) 0).trans c0, (cell_of_block ((setRow_other _ _ _ _ (by omega)).trans hX4) 4).trans c4⟩)
        clear hK K
        (try simp only [Act.put, List.setIfInBounds_toArray, List.set_cons_zero, List.set_cons_succ])
        refine wpAnyH_take (i := 13) (oi := Oper.mk (some 3) _ _ _ _ _) (v := ?_) rfl (by kernel_rfl) (by kernel_rfl) (by kernel_rfl) (fun _ _ _ h => h) (Or.inl ⟨by rfl, ?_⟩) (by assumption) ?_
        rotate_left
        · intro w hSw
          obtain ⟨hs0, hs1, hs2⟩ := hSw
          clear hs0
          go_simp
          all_goals (with_reducible rfl)
        simp only [Act.put, List.setIfInBounds_toArray, List.set_cons_zero, List.set_cons_succ]
        refine wpAnyH_done (by kernel_rfl) ?_ _
        refine NoPanic.normal ?_
        go_wp2_with fail
        refine bodyPost_ret (results_past Try.results33 _ W9 w.heap.size C rfl (by rw [hW9.out]; exact setRow_heap _ _ _ _ _ _ hX0) hok.out) rfl ⟨?_, ?_⟩
        · rw [HF.out]; first | rfl | simp [*]
        · rw [hW9.out]; exact below_setRow (below_drew' hXB) (by omega) _
end Go.Proofs.Ythimglgjeibaoaa

/- What the program tells of a history: whether it is one, goes on, has news, its tasks. -/
namespace Go.Proofs.Ythimglgjeibaoaa
open Go.RowKit
set_option linter.unusedVariables false
set_option linter.unusedSimpArgs false
theorem pastB_size (l : List Ev) : (Pl.pastB Pl.evB l).1.opn.length = 40 := by
  unfold Pl.pastB
  split
  · simp [Pl.Past.none]
  · exact walk_size l Pl.Past.none (by simp [Pl.Past.none])
theorem below_top {w X1 : World} {o : Obj} (h : Below w.heap.size w X1) : Below w.heap.size w (X1.alloc o) := h.alloc h.size o
set_option maxRecDepth 100000 in
set_option maxHeartbeats 1600000 in
theorem implHistOk_any (l : List Ev) (hwf : ∀ e ∈ l, e.Wf) (hN : l.length ≤ 1048576) (v : Value) (w : World) (hr : EvRow w l v) :
    Calls Try.prog 15 #[v] w fun x w' => x = .returned (.bool (Pl.pastB Pl.evB l).2) ∧ Below w.heap.size w w' := by
  have hp := hide (pastOf_any l hwf hN v w hr)
  have hok := hide (pastC_ok _ (pastB_size l))
  unfold pastV at hp
  obtain ⟨ad, cap, rfl, hc, hmx, hx⟩ := hr
  clear hx
  generalize (Pl.pastB Pl.evB l).2 = rb at *
  generalize pastC (Pl.pastB Pl.evB l).1 = C at *
  go_enter Try.func15, Try.ntmps15
  go_wp2_with fail
  refine hp.out.mono ?_
  rintro x1 X1 ⟨rfl, hB1⟩
  have HB1 := hide hB1
  clear hB1 hp
  go_wp2_with (first
    | (with_reducible show wpList _ _ _ (Oper.mk _ (Op.store 50 _ _) _ _ _ _ :: _) _ _; refine ws61top rfl (.tmp 3) (.tmp 8) rfl rfl _ rfl rfl hok.out ?_))
  go_ret
  exact ⟨rfl, below_top HB1.out⟩
end Go.Proofs.Ythimglgjeibaoaa
