/- What the program knows with one more thing asked for, as it reckons it. -/
import Derived.Test.YthimglgjeibaoaaPaM
import Derived.Test.YthimglgjeibaoaaCmd1
import Derived.Deep.RegionWith
import Derived.Deep.RegionLaw
namespace Go.Proofs.Ythimglgjeibaoaa
open Go.RowKit
set_option linter.unusedVariables false
set_option linter.unusedSimpArgs false
set_option maxHeartbeats 400000 in
theorem cameKind_any (k : Int) (w : World) :
    Calls Try.prog 55 #[.int .i64 k] w fun e w' => e = .returned (.int .i64 (Pl.cameI k)) ∧ w' = w := by
  unfold Pl.cameI
  by_cases h1 : k = 1
  · subst h1
    go_enter Try.func55, Try.ntmps55
    go_wp2
    go_ret
    exact ⟨rfl, rfl⟩
  · by_cases h2 : k = 2
    · subst h2
      go_enter Try.func55, Try.ntmps55
      go_wp2
      go_ret
      exact ⟨rfl, rfl⟩
    · by_cases h3 : k = 3
      · subst h3
        go_enter Try.func55, Try.ntmps55
        go_wp2
        go_ret
        exact ⟨rfl, rfl⟩
      · have q1 : (k == 1) = false := by simp [h1]
        have q2 : (k == 2) = false := by simp [h2]
        have q3 : (k == 3) = false := by simp [h3]
        rw [if_neg h1, if_neg h2, if_neg h3]
        clear h1 h2 h3
        go_enter Try.func55, Try.ntmps55
        go_wp2
        go_ret
        exact ⟨rfl, rfl⟩
theorem isEnd_k (k : Int) (w : World) : Calls Try.prog 56 #[.int .i64 k] w fun e w' => e = .returned (.bool (Pl.endK k)) ∧ w' = w := isEnd_any k w

set_option maxRecDepth 100000 in
set_option maxHeartbeats 3200000 in
theorem withCmd_any (h : Pl.Past) (hz : h.opn.length = 40) (k : Int) (nm : ByteArray) (vk vn : Int) (vt : ByteArray) (w : World) (n : Nat) (hn : h.asked = n) (hn1 : n < 40) (hd : -1000 ≤ h.due ∧ h.due ≤ 1000) :
    Calls Try.prog 36 #[pastV h, cmdV k nm vk vn vt] w fun x w' => x = .returned (.tuple #[pastV (Pl.withCmd h k).1, .bool (Pl.withCmd h k).2]) ∧ Below w.heap.size w w' := by
  unfold pastV
  have hs := hide (pastC_ok h hz)
  have h3 := pastC_3 h
  have h4 := pastC_4 h
  have h5 := pastC_opn h hz n hn1
  have h46 := pastC_46 h hz
  have HF : Hid (((((pastC h).setIfInBounds (5 + n) (.int .i64 (Pl.cameI k))).setIfInBounds 3 (.int .i64 ((n : Int) + 1))).setIfInBounds 4 (.int .i64 (h.due - 1))).setIfInBounds 46 (.bool (Pl.endK k)) = pastC (Pl.withCmd h k).1) := by
    show _ = _
    rw [pastC_setO h hz n hn1, pastC_set3, pastC_set4, pastC_set46 _ (by simp [hz])]
    simp only [Pl.withCmd, hn, Int.toNat_natCast]
  have HR : Hid ((Pl.withCmd h k).2 = (!Pl.endK k || (h.due - 1 == 0))) := rfl
  have hck := hide (cameKind_any k)
  have hen := hide (isEnd_k k)
  rw [hn] at h3
  have hz' : (Pl.withCmd h k).1.opn.length = 40 := by simp [Pl.withCmd, hz]
  have g46 : (pastC (Pl.withCmd h k).1)[46]? = some (.bool (Pl.endK k)) := pastC_46 _ hz'
  have g4 : (pastC (Pl.withCmd h k).1)[4]? = some (.int .i64 (h.due - 1)) := pastC_4 _
  have hs' := hide (pastC_ok _ hz')
  have k3 : ((pastC h).setIfInBounds (5 + n) (.int .i64 (Pl.cameI k)))[3]? = some (.int .i64 (n : Int)) := by rw [Array.getElem?_setIfInBounds_ne (by omega)]; exact h3
  have k4 : ((pastC h).setIfInBounds (5 + n) (.int .i64 (Pl.cameI k)))[4]? = some (.int .i64 h.due) := by rw [Array.getElem?_setIfInBounds_ne (by omega)]; exact h4
  have k46 : ((pastC h).setIfInBounds (5 + n) (.int .i64 (Pl.cameI k)))[46]? = some (.bool h.over) := by rw [Array.getElem?_setIfInBounds_ne (by omega)]; exact h46
  have K3 := hide k3
  have K4 := hide k4
  have K46 := hide k46
  clear k3 k4 k46
  generalize (Pl.withCmd h k).2 = rb at *
  generalize pastC (Pl.withCmd h k).1 = C' at *
  generalize pastC h = C at *
  generalize h.due = due at *
  generalize h.opn[n]?.getD 0 = ov at *
  generalize Pl.cameI k = ck at *
  generalize Pl.endK k = en at *
  obtain ⟨hd0, hd1⟩ := hd
  have hnn : (n : Int) < 40 := by omega
  clear hn hz hz'
  go_enter Try.func36, Try.ntmps36
  go_wp2_with fail
  have kk3 := K3.out
  go_region_held3 (fun W => W.cell? ⟨w.heap.size + 1, 0, none⟩ = some (.int .i64 k) ∧ W.cell? ⟨w.heap.size, 3, none⟩ = some (.int .i64 (n : Int))) (first | go_keep | (constructor <;> simp [*]))
    (first | (go_at_call 55; refine (hck.out _).mono ?_; rintro e w1 ⟨rfl, rfl⟩))
  clear kk3
  all_goals
    generalize C.setIfInBounds (5 + n) (Value.int .i64 ck) = C1 at *
    have k3 := K3.out
    have k4 := K4.out
    have k46 := K46.out
    clear h3 h4 h5 h46
    go_wp2_with fail
    refine (hen.out _).mono ?_
    rintro e w2 ⟨rfl, rfl⟩
    go_wp2_with fail
    rw [HF.out]
    refine gen_code (fun X => X.heap[w.heap.size]? = some (.cells C' 50 (0, 0)) ∧ (∃ Z, X.heap[w.heap.size + 1 + 1]? = some (.cells Z 50 (0, 0)) ∧ Z.size = 47) ∧ Below w.heap.size w X) ⟨top3 _ _ _ _, ⟨_, top3'' _ _ _ _, rfl⟩, below_drew' (bel3 _ _ _ _)⟩ ?_
    rintro X ⟨hX0, ⟨Z, hX2, hZ⟩, hXB⟩
    have hX2d : X.drew.heap[w.heap.size + 1 + 1]? = some (.cells Z 50 (0, 0)) := hX2
    have c46 := (cell_of_block hX0 46).trans g46
    have c4 := (cell_of_block hX0 4).trans g4
    cases en
    · refine wp_region_noPanic ?_
      refine wp_region_held_drew (S := (fun W => W.heap[w.heap.size]? = some (.cells C' 50 (0, 0)) ∧ W.cell? ⟨w.heap.size, 46, none⟩ = some (.bool false) ∧ W.cell? ⟨w.heap.size, 4, none⟩ = some (.int .i64 (due - 1)))) (by kernel_rfl) ⟨hX0, c46, c4⟩ (fun hHeld => ?_)
      refine wpAnyH_take (i := 0) (oi := Oper.mk (some 25) _ _ _ _ _) (v := .agg C') rfl (by kernel_rfl) (by kernel_rfl) (by kernel_rfl) (fun _ _ _ h => h) (yl61 (by rfl) (.tmp 2) rfl w.heap.size rfl C' (fun _ h => h.1) hs'.out) (by assumption) ?_
      simp only [Act.put, List.setIfInBounds_toArray, List.set_cons_zero, List.set_cons_succ]
      refine wpAnyH_take (i := 1) (oi := Oper.mk (some 26) _ _ _ _ _) (v := ?_) rfl (by kernel_rfl) (by kernel_rfl) (by kernel_rfl) (fun _ _ _ h => h) (Or.inl ⟨by rfl, ?_⟩) (by assumption) ?_
      rotate_left
      · intro w hSw
        obtain ⟨hs0, hs1, hs2⟩ := hSw
        clear hs0
        go_simp
        all_goals (with_reducible rfl)
      simp only [Act.put, List.setIfInBounds_toArray, List.set_cons_zero, List.set_cons_succ]
      refine wpAnyH_take (i := 2) (oi := Oper.mk (some 27) _ _ _ _ _) (v := ?_) rfl (by kernel_rfl) (by kernel_rfl) (by kernel_rfl) (fun _ _ _ h => h) (Or.inl ⟨by rfl, ?_⟩) (by assumption) ?_
      rotate_left
      · intro w hSw
        obtain ⟨hs0, hs1, hs2⟩ := hSw
        clear hs0
        go_simp
        all_goals (with_reducible rfl)
      simp only [Act.put, List.setIfInBounds_toArray, List.set_cons_zero, List.set_cons_succ]
      refine wpAnyH_take (i := 3) (oi := Oper.mk (some 28) _ _ _ _ _) (v := ?_) rfl (by kernel_rfl) (by kernel_rfl) (by kernel_rfl) (fun _ _ _ h => h) (Or.inl ⟨by rfl, ?_⟩) (by assumption) ?_
      rotate_left
      · intro w hSw
        obtain ⟨hs0, hs1, hs2⟩ := hSw
        clear hs0
        go_simp
        all_goals (with_reducible rfl)
      simp only [Act.put, List.setIfInBounds_toArray, List.set_cons_zero, List.set_cons_succ]
      refine wpAnyH_take (i := 4) (oi := Oper.mk (some 29) _ _ _ _ _) (v := ?_) rfl (by kernel_rfl) (by kernel_rfl) (by kernel_rfl) (fun _ _ _ h => h) (Or.inl ⟨by rfl, ?_⟩) (by assumption) ?_
      rotate_left
      · intro w hSw
        obtain ⟨hs0, hs1, hs2⟩ := hSw
        clear hs0
        go_simp
        all_goals (with_reducible rfl)
      simp only [Act.put, List.setIfInBounds_toArray, List.set_cons_zero, List.set_cons_succ]
      refine wpAnyH_take (i := 5) (oi := Oper.mk (some 30) _ _ _ _ _) (v := undef) rfl (by kernel_rfl) (by kernel_rfl) (by kernel_rfl) (fun _ _ _ h => h) (Or.inr ⟨by rfl, rfl⟩) (by assumption) ?_
      simp only [Act.put, List.setIfInBounds_toArray, List.set_cons_zero, List.set_cons_succ]
      refine wpAnyH_take (i := 6) (oi := Oper.mk (some 31) _ _ _ _ _) (v := undef) rfl (by kernel_rfl) (by kernel_rfl) (by kernel_rfl) (fun _ _ _ h => h) (Or.inr ⟨by rfl, rfl⟩) (by assumption) ?_
      simp only [Act.put, List.setIfInBounds_toArray, List.set_cons_zero, List.set_cons_succ]
      refine wpAnyH_take (i := 7) (oi := Oper.mk (some 32) _ _ _ _ _) (v := undef) rfl (by kernel_rfl) (by kernel_rfl) (by kernel_rfl) (fun _ _ _ h => h) (Or.inr ⟨by rfl, rfl⟩) (by assumption) ?_
      simp only [Act.put, List.setIfInBounds_toArray, List.set_cons_zero, List.set_cons_succ]
      refine wpAnyH_take (i := 8) (oi := Oper.mk (some 33) _ _ _ _ _) (v := ?_) rfl (by kernel_rfl) (by kernel_rfl) (by kernel_rfl) (fun _ _ _ h => h) (Or.inl ⟨by rfl, ?_⟩) (by assumption) ?_
      rotate_left
      · intro w hSw
        obtain ⟨hs0, hs1, hs2⟩ := hSw
        clear hs0
        go_simp
        all_goals (with_reducible rfl)
      simp only [Act.put, List.setIfInBounds_toArray, List.set_cons_zero, List.set_cons_succ]
      refine wpAnyH_ready (rs := [9]) (by kernel_rfl) (by simp) ?_
      refine AllReadyH.cons (o := Oper.mk none (Op.store 50 (.tmp 4) (.tmp 25)) _ _ _ none) rfl (fun K hK => ?_) AllReadyH.nil
      refine st61s rfl (.tmp 4) (.tmp 25) rfl (w.heap.size + 1 + 1) rfl C' rfl Z hX2d hZ hs'.out ?_
      intro W9 hW9
      refine hK.out _ _ ?_ (fun hHeld9 => ?_)
      · (rw [hW9.out]; exact ⟨(setRow_other _ _ _ _ (by omega)).trans hX0, (cell_of_block ((setRow_other _ _ _ _ (by omega)).trans hX0) 46).trans g46, (cell_of_block ((setRow_other _ _ _ _ (by omega)).trans hX0) 4).trans g4⟩)
      clear hK K
      (try simp only [Act.put, List.setIfInBounds_toArray, List.set_cons_zero, List.set_cons_succ])
      refine wpAnyH_take (i := 10) (oi := Oper.mk (some 5) _ _ _ _ _) (v := ?_) rfl (by kernel_rfl) (by kernel_rfl) (by kernel_rfl) (fun _ _ _ h => h) (Or.inl ⟨by rfl, ?_⟩) (by assumption) ?_
      rotate_left
      · intro w hSw
        obtain ⟨hs0, hs1, hs2⟩ := hSw
        clear hs0
        go_simp
        all_goals (with_reducible rfl)
      simp only [Act.put, List.setIfInBounds_toArray, List.set_cons_zero, List.set_cons_succ]
      refine wpAnyH_done (by kernel_rfl) ?_ _
      refine NoPanic.normal ?_
      go_wp2_with fail
      refine bodyPost_ret (results_past Try.results36 _ W9 (w.heap.size + 1 + 1) C' rfl (by rw [hW9.out]; exact setRow_heap _ _ _ _ _ _ hX2) hs'.out) rfl ⟨?_, ?_⟩
      · rw [HR.out]; rfl
      · rw [hW9.out]; exact below_setRow (below_drew' hXB) (by omega) _
    · refine wp_region_noPanic ?_
      refine wp_region_held_drew (S := (fun W => W.heap[w.heap.size]? = some (.cells C' 50 (0, 0)) ∧ W.cell? ⟨w.heap.size, 46, none⟩ = some (.bool true) ∧ W.cell? ⟨w.heap.size, 4, none⟩ = some (.int .i64 (due - 1)))) (by kernel_rfl) ⟨hX0, c46, c4⟩ (fun hHeld => ?_)
      refine wpAnyH_take (i := 0) (oi := Oper.mk (some 25) _ _ _ _ _) (v := .agg C') rfl (by kernel_rfl) (by kernel_rfl) (by kernel_rfl) (fun _ _ _ h => h) (yl61 (by rfl) (.tmp 2) rfl w.heap.size rfl C' (fun _ h => h.1) hs'.out) (by assumption) ?_
      simp only [Act.put, List.setIfInBounds_toArray, List.set_cons_zero, List.set_cons_succ]
      refine wpAnyH_take (i := 1) (oi := Oper.mk (some 26) _ _ _ _ _) (v := ?_) rfl (by kernel_rfl) (by kernel_rfl) (by kernel_rfl) (fun _ _ _ h => h) (Or.inl ⟨by rfl, ?_⟩) (by assumption) ?_
      rotate_left
      · intro w hSw
        obtain ⟨hs0, hs1, hs2⟩ := hSw
        clear hs0
        go_simp
        all_goals (with_reducible rfl)
      simp only [Act.put, List.setIfInBounds_toArray, List.set_cons_zero, List.set_cons_succ]
      refine wpAnyH_take (i := 2) (oi := Oper.mk (some 27) _ _ _ _ _) (v := ?_) rfl (by kernel_rfl) (by kernel_rfl) (by kernel_rfl) (fun _ _ _ h => h) (Or.inl ⟨by rfl, ?_⟩) (by assumption) ?_
      rotate_left
      · intro w hSw
        obtain ⟨hs0, hs1, hs2⟩ := hSw
        clear hs0
        go_simp
        all_goals (with_reducible rfl)
      simp only [Act.put, List.setIfInBounds_toArray, List.set_cons_zero, List.set_cons_succ]
      refine wpAnyH_take (i := 3) (oi := Oper.mk (some 28) _ _ _ _ _) (v := ?_) rfl (by kernel_rfl) (by kernel_rfl) (by kernel_rfl) (fun _ _ _ h => h) (Or.inl ⟨by rfl, ?_⟩) (by assumption) ?_
      rotate_left
      · intro w hSw
        obtain ⟨hs0, hs1, hs2⟩ := hSw
        clear hs0
        go_simp
        all_goals (with_reducible rfl)
      simp only [Act.put, List.setIfInBounds_toArray, List.set_cons_zero, List.set_cons_succ]
      refine wpAnyH_take (i := 4) (oi := Oper.mk (some 29) _ _ _ _ _) (v := ?_) rfl (by kernel_rfl) (by kernel_rfl) (by kernel_rfl) (fun _ _ _ h => h) (Or.inl ⟨by rfl, ?_⟩) (by assumption) ?_
      rotate_left
      · intro w hSw
        obtain ⟨hs0, hs1, hs2⟩ := hSw
        clear hs0
        go_simp
        all_goals (with_reducible rfl)
      simp only [Act.put, List.setIfInBounds_toArray, List.set_cons_zero, List.set_cons_succ]
      refine wpAnyH_take (i := 5) (oi := Oper.mk (some 30) _ _ _ _ _) (v := ?_) rfl (by kernel_rfl) (by kernel_rfl) (by kernel_rfl) (fun _ _ _ h => h) (Or.inl ⟨by rfl, ?_⟩) (by assumption) ?_
      rotate_left
      · intro w hSw
        obtain ⟨hs0, hs1, hs2⟩ := hSw
        clear hs0
        go_simp
        all_goals (with_reducible rfl)
      simp only [Act.put, List.setIfInBounds_toArray, List.set_cons_zero, List.set_cons_succ]
      refine wpAnyH_take (i := 6) (oi := Oper.mk (some 31) _ _ _ _ _) (v := ?_) rfl (by kernel_rfl) (by kernel_rfl) (by kernel_rfl) (fun _ _ _ h => h) (Or.inl ⟨by rfl, ?_⟩) (by assumption) ?_
      rotate_left
      · intro w hSw
        obtain ⟨hs0, hs1, hs2⟩ := hSw
        clear hs0
        go_simp
        all_goals (with_reducible rfl)
      simp only [Act.put, List.setIfInBounds_toArray, List.set_cons_zero, List.set_cons_succ]
      refine wpAnyH_take (i := 7) (oi := Oper.mk (some 32) _ _ _ _ _) (v := ?_) rfl (by kernel_rfl) (by kernel_rfl) (by kernel_rfl) (fun _ _ _ h => h) (Or.inl ⟨by rfl, ?_⟩) (by assumption) ?_
      rotate_left
      · intro w hSw
        obtain ⟨hs0, hs1, hs2⟩ := hSw
        clear hs0
        go_simp
        all_goals (with_reducible rfl)
      simp only [Act.put, List.setIfInBounds_toArray, List.set_cons_zero, List.set_cons_succ]
      refine wpAnyH_take (i := 8) (oi := Oper.mk (some 33) _ _ _ _ _) (v := ?_) rfl (by kernel_rfl) (by kernel_rfl) (by kernel_rfl) (fun _ _ _ h => h) (Or.inl ⟨by rfl, ?_⟩) (by assumption) ?_
      rotate_left
      · intro w hSw
        obtain ⟨hs0, hs1, hs2⟩ := hSw
        clear hs0
        go_simp
        all_goals (with_reducible rfl)
      simp only [Act.put, List.setIfInBounds_toArray, List.set_cons_zero, List.set_cons_succ]
      refine wpAnyH_ready (rs := [9]) (by kernel_rfl) (by simp) ?_
      refine AllReadyH.cons (o := Oper.mk none (Op.store 50 (.tmp 4) (.tmp 25)) _ _ _ none) rfl (fun K hK => ?_) AllReadyH.nil
      refine st61s rfl (.tmp 4) (.tmp 25) rfl (w.heap.size + 1 + 1) rfl C' rfl Z hX2d hZ hs'.out ?_
      intro W9 hW9
      refine hK.out _ _ ?_ (fun hHeld9 => ?_)
      · (rw [hW9.out]; exact ⟨(setRow_other _ _ _ _ (by omega)).trans hX0, (cell_of_block ((setRow_other _ _ _ _ (by omega)).trans hX0) 46).trans g46, (cell_of_block ((setRow_other _ _ _ _ (by omega)).trans hX0) 4).trans g4⟩)
      clear hK K
      (try simp only [Act.put, List.setIfInBounds_toArray, List.set_cons_zero, List.set_cons_succ])
      refine wpAnyH_take (i := 10) (oi := Oper.mk (some 5) _ _ _ _ _) (v := ?_) rfl (by kernel_rfl) (by kernel_rfl) (by kernel_rfl) (fun _ _ _ h => h) (Or.inl ⟨by rfl, ?_⟩) (by assumption) ?_
      rotate_left
      · intro w hSw
        obtain ⟨hs0, hs1, hs2⟩ := hSw
        clear hs0
        go_simp
        all_goals (with_reducible rfl)
      simp only [Act.put, List.setIfInBounds_toArray, List.set_cons_zero, List.set_cons_succ]
      refine wpAnyH_done (by kernel_rfl) ?_ _
      refine NoPanic.normal ?_
      go_wp2_with fail
      refine bodyPost_ret (results_past Try.results36 _ W9 (w.heap.size + 1 + 1) C' rfl (by rw [hW9.out]; exact setRow_heap _ _ _ _ _ _ hX2) hs'.out) rfl ⟨?_, ?_⟩
      · rw [HR.out]; rfl
      · rw [hW9.out]; exact below_setRow (below_drew' hXB) (by omega) _
end Go.Proofs.Ythimglgjeibaoaa
