/- Whether an event may stand behind others, as the specification asks it. -/
import Derived.Test.YtobeecopkfgplaaSpM
import Derived.Test.YtobeecopkfgplaaEvL
namespace Go.Proofs.Ytobeecopkfgplaa
open Go.RowKit
set_option linter.unusedVariables false
set_option linter.unusedSimpArgs false
set_option maxHeartbeats 800000 in
theorem l5May_four (l : List Ev) (v : Value) (mp : Int) (mn : ByteArray) (mo : Bool) (wk wn : Int) (wt : ByteArray) (w : World) :
    Calls Try.prog 58 #[v, cameV 4 mp mn mo wk wn wt] w fun x w' => x = .returned (.bool true) ∧ Below w.heap.size w w' := by
  go_enter Try.func58, Try.ntmps58
  go_wp2
  go_ret
  exact ⟨rfl, (Below.refl _ _).alloc (Nat.le_refl _) _⟩
theorem l5May_any (l : List Ev) (hN : l.length ≤ 1048576) (v : Value) (ct mp : Int) (mn : ByteArray) (mo : Bool) (wk wn : Int) (wt : ByteArray) (w : World) (hr : EvRow w l v) :
    Calls Try.prog 58 #[v, cameV ct mp mn mo wk wn wt] w fun x w' => x = .returned (.bool (Pl.mayP l ct mp)) ∧ Below w.heap.size w w' := by
  unfold Pl.mayP
  by_cases h4 : ct = 4
  · subst h4
    exact l5May_four l v mp mn mo wk wn wt w
  · rw [show (ct == 4) = false by simp [h4], Bool.false_or]
    cases hin : (decide (0 ≤ mp) && decide (mp ≤ ((Pl.cmdsOf l).length : Int) - 1))
    · rw [Bool.false_and]
      exact l5May_out l hN v ct mp mn mo wk wn wt w hr h4 hin
    · simp only [Bool.and_eq_true, decide_eq_true_eq] at hin
      rw [Bool.true_and]
      obtain ⟨p, rfl⟩ : ∃ p : Nat, mp = p := ⟨mp.toNat, by omega⟩
      have hp : p < (Pl.cmdsOf l).length := by omega
      obtain ⟨c, hc⟩ : ∃ c, (Pl.cmdsOf l)[p]? = some c := ⟨_, List.getElem?_eq_getElem hp⟩
      rw [Int.toNat_natCast, hc]
      simp only
      cases hen : Pl.endK c.ck
      · by_cases hct : Pl.cameS c.ck = ct
        · rw [show (Pl.cameS c.ck == ct) = true by simp [hct]]
          simpa using l5May_free l hN v ct p mn mo wk wn wt w hr h4 c hc hen hct
        · rw [show (Pl.cameS c.ck == ct) = false by simp [hct]]
          simpa using l5May_kind l hN v ct p mn mo wk wn wt w hr h4 c hc hen hct
      · simpa using l5May_end l hN v ct p mn mo wk wn wt w hr h4 c hc hen
/-- an event in a box, and nothing else turned -/
def BE (w : World) (e : Ev) (X : World) : Prop := X.heap[w.heap.size]? = some (.cells (evL e).toArray 55 (0, 0)) ∧ Below w.heap.size w X
theorem BE.later {w X X1 : World} {e : Ev} (h : BE w e X) (hB : Below X.heap.size X X1) : BE w e X1 := by
  have l0 := (Array.getElem?_eq_some_iff.1 h.1).1
  exact ⟨(hB.block _ l0).trans h.1, h.2.trans (hB.mono h.2.size)⟩
theorem BE.start {w : World} {e : Ev} : BE w e (w.alloc (.cells (evL e).toArray 55)) := ⟨by rw [heap_alloc_at, if_pos rfl], (Below.refl _ _).alloc (Nat.le_refl _) _⟩
theorem BE.lt {w X : World} {e : Ev} (h : BE w e X) : w.heap.size < X.heap.size := (Array.getElem?_eq_some_iff.1 h.1).1
set_option maxHeartbeats 800000 in
theorem next_nil (e : Ev) (v : Value) (w : World) (hr : EvRow w [] v) :
    Calls Try.prog 33 #[v, evV e] w fun x w' => x = .returned (.bool (Pl.nextB [] e)) ∧ Below w.heap.size w w' := by
  obtain ⟨ad, cap, rfl, hc, hmx, hx⟩ := hr
  clear hx
  have HE : Hid (Pl.nextB [] e = (e.k == 1)) := by show _ = _; simp [Pl.nextB]
  go_enter Try.func33, Try.ntmps33
  go_wp2
  go_ret
  exact ⟨by rw [HE.out]; rfl, (Below.refl _ _).alloc (Nat.le_refl _) _⟩
set_option maxRecDepth 100000 in
set_option maxHeartbeats 1600000 in
theorem next_bad (l : List Ev) (hl : l ≠ []) (hM : ManyOk l) (hN : l.length ≤ 1048576) (v : Value) (e : Ev) (w : World) (hr : EvRow w l v) (hbad : Pl.openB l = false ∨ e.k = 1 ∨ decide (0 < Pl.leftOf l) ≠ (e.k == 3)) :
    Calls Try.prog 33 #[v, evV e] w fun x w' => x = .returned (.bool (Pl.nextB l e)) ∧ Below w.heap.size w w' := by
  have HRW := hide hr
  have hlb := left_bound l hM l.length (Nat.le_refl _)
  rw [List.take_length] at hlb
  obtain ⟨ad, cap, rfl, hc, hmx, hx⟩ := hr
  unfold maxLen at hmx
  clear hx
  have hlen0 : 0 < l.length := List.length_pos_iff.2 hl
  have hleft := hide (fun W hW => l5Left_any l hM hN (.slice ad l.length cap) W hW)
  have hopen := hide (fun W hW => l5Open_any l hN (.slice ad l.length cap) W hW)
  have hz0 : ((l.length : Int) == 0) = false := by simp; omega
  have HE : Hid (Pl.nextB l e = false) := by show _ = _; unfold Pl.nextB; rw [if_neg hl, if_pos hbad]
  rw [HE.out]
  have HBAD : Hid ((!Pl.openB l || ((e.k == 1) || (decide (0 < Pl.leftOf l) != (e.k == 3)))) = true) := by
    show _ = _
    rcases hbad with h | h | h
    · simp [h]
    · simp [h]
    · have : (decide (0 < Pl.leftOf l) != (e.k == 3)) = true := by simpa using h
      simp [this]
  clear hbad hM hl
  generalize Pl.openB l = ob at *
  generalize Pl.leftOf l = lf at *
  generalize hk1 : (e.k == 1) = k1 at *
  generalize hk3 : (e.k == 3) = k3 at *
  generalize hlf : decide (0 < lf) = b2 at *
  cases ob
  · go_enter Try.func33, Try.ntmps33
    go_wp2_with fail
    refine (hleft.out _ (HRW.out.later ((Below.refl _ _).alloc (Nat.le_refl _) _))).mono ?_
    rintro x1 w1 ⟨rfl, rfl⟩
    go_wp2_with fail
    refine (hopen.out _ (HRW.out.later ((Below.refl _ _).alloc (Nat.le_refl _) _))).mono ?_
    rintro x2 X ⟨rfl, hB2⟩
    have HBE := hide (BE.start.later hB2)
    have y0 : X.cell? ⟨w.heap.size, 0, none⟩ = some (.int .i64 e.k) := cell_of_block HBE.out.1 0
    clear hB2 hopen hleft
    go_wp2_with fail
    go_ret
    exact ⟨rfl, HBE.out.2⟩
  · cases k1
    · have hmis : (b2 != k3) = true := by simpa using HBAD.out
      cases b2 <;> cases k3
      all_goals first | (exact absurd hmis (by decide)) | skip
      all_goals
        clear hmis
        go_enter Try.func33, Try.ntmps33
        go_wp2_with fail
        refine (hleft.out _ (HRW.out.later ((Below.refl _ _).alloc (Nat.le_refl _) _))).mono ?_
        rintro x1 w1 ⟨rfl, rfl⟩
        go_wp2_with fail
        refine (hopen.out _ (HRW.out.later ((Below.refl _ _).alloc (Nat.le_refl _) _))).mono ?_
        rintro x2 X ⟨rfl, hB2⟩
        have HBE := hide (BE.start.later hB2)
        have y0 : X.cell? ⟨w.heap.size, 0, none⟩ = some (.int .i64 e.k) := cell_of_block HBE.out.1 0
        clear hB2 hopen hleft
        go_wp2_with fail
        go_ret
        exact ⟨rfl, HBE.out.2⟩
    · go_enter Try.func33, Try.ntmps33
      go_wp2_with fail
      refine (hleft.out _ (HRW.out.later ((Below.refl _ _).alloc (Nat.le_refl _) _))).mono ?_
      rintro x1 w1 ⟨rfl, rfl⟩
      go_wp2_with fail
      refine (hopen.out _ (HRW.out.later ((Below.refl _ _).alloc (Nat.le_refl _) _))).mono ?_
      rintro x2 X ⟨rfl, hB2⟩
      have HBE := hide (BE.start.later hB2)
      have y0 : X.cell? ⟨w.heap.size, 0, none⟩ = some (.int .i64 e.k) := cell_of_block HBE.out.1 0
      clear hB2 hopen hleft
      go_wp2_with fail
      go_ret
      exact ⟨rfl, HBE.out.2⟩
set_option maxRecDepth 100000 in
set_option maxHeartbeats 1600000 in
theorem next_task (l : List Ev) (hl : l ≠ []) (hM : ManyOk l) (hN : l.length ≤ 1048576) (v : Value) (e : Ev) (w : World) (hr : EvRow w l v) (hgood : ¬ (Pl.openB l = false ∨ e.k = 1 ∨ decide (0 < Pl.leftOf l) ≠ (e.k == 3))) (hk : e.k = 2) (hm : 0 ≤ e.many ∧ e.many ≤ 40) :
    Calls Try.prog 33 #[v, evV e] w fun x w' => x = .returned (.bool (Pl.nextB l e)) ∧ Below w.heap.size w w' := by
  have HRW := hide hr
  have hlb := left_bound l hM l.length (Nat.le_refl _)
  rw [List.take_length] at hlb
  obtain ⟨ad, cap, rfl, hc, hmx, hx⟩ := hr
  unfold maxLen at hmx
  clear hx
  have hlen0 : 0 < l.length := List.length_pos_iff.2 hl
  have hleft := hide (fun W hW => l5Left_any l hM hN (.slice ad l.length cap) W hW)
  have hopen := hide (fun W hW => l5Open_any l hN (.slice ad l.length cap) W hW)
  have hz0 : ((l.length : Int) == 0) = false := by simp; omega
  have HE : Hid (Pl.nextB l e = (Pl.newsOf l && decide (((Pl.cmdsOf l).length : Int) + e.many ≤ 40))) := by
    show _ = _
    unfold Pl.nextB
    rw [if_neg hl, if_neg hgood]
    rw [if_pos hk]
  rw [HE.out]
  have ho : Pl.openB l = true := by
    cases hb : Pl.openB l
    · exact absurd (Or.inl hb) hgood
    · rfl
  have hk1 : (e.k == 1) = false := by
    have : ¬ e.k = 1 := fun hb => hgood (Or.inr (Or.inl hb))
    simp [this]
  have hb2 : decide (0 < Pl.leftOf l) = (e.k == 3) := Classical.byContradiction fun hb => hgood (Or.inr (Or.inr hb))
  have hnews := hide (fun W hW => l5News_any l hN (.slice ad l.length cap) W hW)
  have hcl := hide (fun W hW => l5Cmds_any l hN (.slice ad l.length cap) W hW)
  have hlc : (Pl.cmdsOf l).length ≤ l.length := by unfold Pl.cmdsOf; exact List.length_filter_le _ _
  generalize Pl.newsOf l = nw at *
  have k2 : (e.k == 2) = true := by simp [hk]
  have k3 : (e.k == 3) = false := by simp [hk]
  rw [k3] at hb2
  clear hk
  clear hgood hM hl
  rw [ho] at hopen
  clear ho
  generalize Pl.leftOf l = lf at *
  go_enter Try.func33, Try.ntmps33
  go_wp2_with fail
  refine (hleft.out _ (HRW.out.later ((Below.refl _ _).alloc (Nat.le_refl _) _))).mono ?_
  rintro x1 w1 ⟨rfl, rfl⟩
  go_wp2_with fail
  refine (hopen.out _ (HRW.out.later ((Below.refl _ _).alloc (Nat.le_refl _) _))).mono ?_
  rintro x2 X ⟨rfl, hB2⟩
  have HBE := hide (BE.start.later hB2)
  have y0 : X.cell? ⟨w.heap.size, 0, none⟩ = some (.int .i64 e.k) := cell_of_block HBE.out.1 0
  clear hB2 hopen hleft
  have YM : Hid (X.cell? ⟨w.heap.size, 4, none⟩ = some (.int .i64 e.many)) := cell_of_block HBE.out.1 4
  go_wp2_with fail
  cases nw
  · refine wp_region_noPanic ?_
    refine wp_region_held_drew (S := fun W => Below X.heap.size X W) (by kernel_rfl) (below_drew' (Below.refl _ _)) (fun hHeld => ?_)
    refine wpAnyH_take (i := 0) (oi := Oper.mk (some 34) _ _ _ _ _) (v := ?_) rfl (by kernel_rfl) (by kernel_rfl) (by kernel_rfl) (fun _ _ _ h => h) (Or.inl ⟨by rfl, ?_⟩) (by assumption) ?_
    rotate_left
    · intro w0 hSw
      clear hSw
      go_simp
      all_goals (with_reducible rfl)
    simp only [Act.put, List.setIfInBounds_toArray, List.set_cons_zero, List.set_cons_succ]
    refine wpAnyH_ready (rs := [1]) (by kernel_rfl) (by simp) ?_
    refine AllReadyH.cons (o := Oper.mk (some 35) _ _ _ _ _) rfl (fun K hK => ?_) AllReadyH.nil
    go_simp
    go_at_call 40
    refine (hnews.out _ (HRW.out.later (HBE.out.2.trans (hHeld.mono HBE.out.2.size)))).mono ?_
    rintro x0 w0 ⟨rfl, rfl⟩
    go_wp2_with fail
    refine hK.out _ _ hHeld (fun hHeld => ?_)
    clear hK K
    (try simp only [Act.put, List.setIfInBounds_toArray, List.set_cons_zero, List.set_cons_succ])
    refine wpAnyH_take (i := 2) (oi := Oper.mk (some 36) _ _ _ _ _) (v := ?_) rfl (by kernel_rfl) (by kernel_rfl) (by kernel_rfl) (fun _ _ _ h => h) (Or.inl ⟨by rfl, ?_⟩) (by assumption) ?_
    rotate_left
    · intro w0 hSw
      clear hSw
      go_simp
      all_goals (with_reducible rfl)
    simp only [Act.put, List.setIfInBounds_toArray, List.set_cons_zero, List.set_cons_succ]
    refine wpAnyH_take (i := 3) (oi := Oper.mk (some 37) _ _ _ _ _) (v := undef) rfl (by kernel_rfl) (by kernel_rfl) (by kernel_rfl) (fun _ _ _ h => h) (Or.inr ⟨by rfl, rfl⟩) (by assumption) ?_
    simp only [Act.put, List.setIfInBounds_toArray, List.set_cons_zero, List.set_cons_succ]
    refine wpAnyH_take (i := 4) (oi := Oper.mk (some 38) _ _ _ _ _) (v := undef) rfl (by kernel_rfl) (by kernel_rfl) (by kernel_rfl) (fun _ _ _ h => h) (Or.inr ⟨by rfl, rfl⟩) (by assumption) ?_
    simp only [Act.put, List.setIfInBounds_toArray, List.set_cons_zero, List.set_cons_succ]
    refine wpAnyH_take (i := 5) (oi := Oper.mk (some 39) _ _ _ _ _) (v := undef) rfl (by kernel_rfl) (by kernel_rfl) (by kernel_rfl) (fun _ _ _ h => h) (Or.inr ⟨by rfl, rfl⟩) (by assumption) ?_
    simp only [Act.put, List.setIfInBounds_toArray, List.set_cons_zero, List.set_cons_succ]
    refine wpAnyH_take (i := 6) (oi := Oper.mk (some 40) _ _ _ _ _) (v := undef) rfl (by kernel_rfl) (by kernel_rfl) (by kernel_rfl) (fun _ _ _ h => h) (Or.inr ⟨by rfl, rfl⟩) (by assumption) ?_
    simp only [Act.put, List.setIfInBounds_toArray, List.set_cons_zero, List.set_cons_succ]
    refine wpAnyH_take (i := 7) (oi := Oper.mk (some 41) _ _ _ _ _) (v := undef) rfl (by kernel_rfl) (by kernel_rfl) (by kernel_rfl) (fun _ _ _ h => h) (Or.inr ⟨by rfl, rfl⟩) (by assumption) ?_
    simp only [Act.put, List.setIfInBounds_toArray, List.set_cons_zero, List.set_cons_succ]
    refine wpAnyH_take (i := 8) (oi := Oper.mk (some 42) _ _ _ _ _) (v := undef) rfl (by kernel_rfl) (by kernel_rfl) (by kernel_rfl) (fun _ _ _ h => h) (Or.inr ⟨by rfl, rfl⟩) (by assumption) ?_
    simp only [Act.put, List.setIfInBounds_toArray, List.set_cons_zero, List.set_cons_succ]
    refine wpAnyH_take (i := 9) (oi := Oper.mk (some 43) _ _ _ _ _) (v := undef) rfl (by kernel_rfl) (by kernel_rfl) (by kernel_rfl) (fun _ _ _ h => h) (Or.inr ⟨by rfl, rfl⟩) (by assumption) ?_
    simp only [Act.put, List.setIfInBounds_toArray, List.set_cons_zero, List.set_cons_succ]
    refine wpAnyH_take (i := 10) (oi := Oper.mk (some 44) _ _ _ _ _) (v := ?_) rfl (by kernel_rfl) (by kernel_rfl) (by kernel_rfl) (fun _ _ _ h => h) (Or.inl ⟨by rfl, ?_⟩) (by assumption) ?_
    rotate_left
    · intro w0 hSw
      clear hSw
      go_simp
      all_goals (with_reducible rfl)
    simp only [Act.put, List.setIfInBounds_toArray, List.set_cons_zero, List.set_cons_succ]
    refine wpAnyH_take (i := 11) (oi := Oper.mk (some 4) _ _ _ _ _) (v := ?_) rfl (by kernel_rfl) (by kernel_rfl) (by kernel_rfl) (fun _ _ _ h => h) (Or.inl ⟨by rfl, ?_⟩) (by assumption) ?_
    rotate_left
    · intro w0 hSw
      clear hSw
      go_simp
      all_goals (with_reducible rfl)
    simp only [Act.put, List.setIfInBounds_toArray, List.set_cons_zero, List.set_cons_succ]
    refine wpAnyH_done (by kernel_rfl) ?_ _
    refine NoPanic.normal ?_
    go_wp2_with fail
    go_ret
    exact ⟨rfl, HBE.out.2.trans (hHeld.mono HBE.out.2.size)⟩
  · have hwr : IntKind.i64.wrap (((Pl.cmdsOf l).length : Int) + e.many) = ((Pl.cmdsOf l).length : Int) + e.many := by rw [IntKind.wrap_i64]; omega
    refine wp_region_noPanic ?_
    refine wp_region_held_drew (S := fun W => Below X.heap.size X W) (by kernel_rfl) (below_drew' (Below.refl _ _)) (fun hHeld => ?_)
    refine wpAnyH_take (i := 0) (oi := Oper.mk (some 34) _ _ _ _ _) (v := ?_) rfl (by kernel_rfl) (by kernel_rfl) (by kernel_rfl) (fun _ _ _ h => h) (Or.inl ⟨by rfl, ?_⟩) (by assumption) ?_
    rotate_left
    · intro w0 hSw
      clear hSw
      go_simp
      all_goals (with_reducible rfl)
    simp only [Act.put, List.setIfInBounds_toArray, List.set_cons_zero, List.set_cons_succ]
    refine wpAnyH_ready (rs := [1]) (by kernel_rfl) (by simp) ?_
    refine AllReadyH.cons (o := Oper.mk (some 35) _ _ _ _ _) rfl (fun K hK => ?_) AllReadyH.nil
    go_simp
    go_at_call 40
    refine (hnews.out _ (HRW.out.later (HBE.out.2.trans (hHeld.mono HBE.out.2.size)))).mono ?_
    rintro x0 w0 ⟨rfl, rfl⟩
    go_wp2_with fail
    refine hK.out _ _ hHeld (fun hHeld => ?_)
    clear hK K
    (try simp only [Act.put, List.setIfInBounds_toArray, List.set_cons_zero, List.set_cons_succ])
    refine wpAnyH_take (i := 2) (oi := Oper.mk (some 36) _ _ _ _ _) (v := ?_) rfl (by kernel_rfl) (by kernel_rfl) (by kernel_rfl) (fun _ _ _ h => h) (Or.inl ⟨by rfl, ?_⟩) (by assumption) ?_
    rotate_left
    · intro w0 hSw
      clear hSw
      go_simp
      all_goals (with_reducible rfl)
    simp only [Act.put, List.setIfInBounds_toArray, List.set_cons_zero, List.set_cons_succ]
    refine wpAnyH_take (i := 3) (oi := Oper.mk (some 37) _ _ _ _ _) (v := ?_) rfl (by kernel_rfl) (by kernel_rfl) (by kernel_rfl) (fun _ _ _ h => h) (Or.inl ⟨by rfl, ?_⟩) (by assumption) ?_
    rotate_left
    · intro w0 hSw
      clear hSw
      go_simp
      all_goals (with_reducible rfl)
    simp only [Act.put, List.setIfInBounds_toArray, List.set_cons_zero, List.set_cons_succ]
    refine wpAnyH_take (i := 6) (oi := Oper.mk (some 40) _ _ _ _ _) (v := ?_) rfl (by kernel_rfl) (by kernel_rfl) (by kernel_rfl) (fun _ _ _ h => h) (Or.inl ⟨by rfl, ?_⟩) (by assumption) ?_
    rotate_left
    · intro w0 hSw
      clear hSw
      go_simp
      all_goals (with_reducible rfl)
    simp only [Act.put, List.setIfInBounds_toArray, List.set_cons_zero, List.set_cons_succ]
    refine wpAnyH_take (i := 7) (oi := Oper.mk (some 41) _ _ _ _ _) (v := ?_) rfl (by kernel_rfl) (by kernel_rfl) (by kernel_rfl) (fun _ _ _ h => h) (Or.inl ⟨by rfl, ?_⟩) (by assumption) ?_
    rotate_left
    · intro w0 hSw
      have z0 : w0.cell? ⟨w.heap.size, 4, none⟩ = some (.int .i64 e.many) := (Below.cell hSw (p := ⟨w.heap.size, 4, none⟩) HBE.out.lt).trans YM.out
      clear hSw
      go_simp
      all_goals (with_reducible rfl)
    simp only [Act.put, List.setIfInBounds_toArray, List.set_cons_zero, List.set_cons_succ]
    refine wpAnyH_ready (rs := [4]) (by kernel_rfl) (by simp) ?_
    refine AllReadyH.cons (o := Oper.mk (some 38) _ _ _ _ _) rfl (fun K hK => ?_) AllReadyH.nil
    go_simp
    go_at_call 42
    refine (hcl.out _ (HRW.out.later (HBE.out.2.trans (hHeld.mono HBE.out.2.size)))).mono ?_
    rintro x0 w0 ⟨v1, rfl, ho1, hB0⟩
    have hHeld' := Below.trans hHeld (hB0.mono hHeld.size)
    obtain ⟨a1, c1, hv1⟩ := ownsRow_form ho1
    subst hv1
    clear ho1
    clear hB0 hHeld
    go_wp2_with fail
    refine hK.out _ _ hHeld' (fun hHeld => ?_)
    clear hK K hHeld'
    (try simp only [Act.put, List.setIfInBounds_toArray, List.set_cons_zero, List.set_cons_succ])
    refine wpAnyH_take (i := 5) (oi := Oper.mk (some 39) _ _ _ _ _) (v := ?_) rfl (by kernel_rfl) (by kernel_rfl) (by kernel_rfl) (fun _ _ _ h => h) (Or.inl ⟨by rfl, ?_⟩) (by assumption) ?_
    rotate_left
    · intro w0 hSw
      clear hSw
      go_simp
      all_goals (with_reducible rfl)
    simp only [Act.put, List.setIfInBounds_toArray, List.set_cons_zero, List.set_cons_succ]
    refine wpAnyH_take (i := 8) (oi := Oper.mk (some 42) _ _ _ _ _) (v := ?_) rfl (by kernel_rfl) (by kernel_rfl) (by kernel_rfl) (fun _ _ _ h => h) (Or.inl ⟨by rfl, ?_⟩) (by assumption) ?_
    rotate_left
    · intro w0 hSw
      clear hSw
      go_simp
      all_goals (with_reducible rfl)
    simp only [Act.put, List.setIfInBounds_toArray, List.set_cons_zero, List.set_cons_succ]
    refine wpAnyH_take (i := 9) (oi := Oper.mk (some 43) _ _ _ _ _) (v := ?_) rfl (by kernel_rfl) (by kernel_rfl) (by kernel_rfl) (fun _ _ _ h => h) (Or.inl ⟨by rfl, ?_⟩) (by assumption) ?_
    rotate_left
    · intro w0 hSw
      clear hSw
      go_simp
      all_goals (with_reducible rfl)
    simp only [Act.put, List.setIfInBounds_toArray, List.set_cons_zero, List.set_cons_succ]
    refine wpAnyH_take (i := 10) (oi := Oper.mk (some 44) _ _ _ _ _) (v := ?_) rfl (by kernel_rfl) (by kernel_rfl) (by kernel_rfl) (fun _ _ _ h => h) (Or.inl ⟨by rfl, ?_⟩) (by assumption) ?_
    rotate_left
    · intro w0 hSw
      clear hSw
      go_simp
      all_goals (with_reducible rfl)
    simp only [Act.put, List.setIfInBounds_toArray, List.set_cons_zero, List.set_cons_succ]
    refine wpAnyH_take (i := 11) (oi := Oper.mk (some 4) _ _ _ _ _) (v := ?_) rfl (by kernel_rfl) (by kernel_rfl) (by kernel_rfl) (fun _ _ _ h => h) (Or.inl ⟨by rfl, ?_⟩) (by assumption) ?_
    rotate_left
    · intro w0 hSw
      clear hSw
      go_simp
      all_goals (with_reducible rfl)
    simp only [Act.put, List.setIfInBounds_toArray, List.set_cons_zero, List.set_cons_succ]
    refine wpAnyH_done (by kernel_rfl) ?_ _
    refine NoPanic.normal ?_
    go_wp2_with fail
    go_ret
    exact ⟨by first | rfl | simp, HBE.out.2.trans (hHeld.mono HBE.out.2.size)⟩
set_option maxRecDepth 100000 in
set_option maxHeartbeats 1600000 in
theorem next_cmd (l : List Ev) (hl : l ≠ []) (hM : ManyOk l) (hN : l.length ≤ 1048576) (v : Value) (e : Ev) (w : World) (hr : EvRow w l v) (hgood : ¬ (Pl.openB l = false ∨ e.k = 1 ∨ decide (0 < Pl.leftOf l) ≠ (e.k == 3))) (hk : e.k = 3) :
    Calls Try.prog 33 #[v, evV e] w fun x w' => x = .returned (.bool (Pl.nextB l e)) ∧ Below w.heap.size w w' := by
  have HRW := hide hr
  have hlb := left_bound l hM l.length (Nat.le_refl _)
  rw [List.take_length] at hlb
  obtain ⟨ad, cap, rfl, hc, hmx, hx⟩ := hr
  unfold maxLen at hmx
  clear hx
  have hlen0 : 0 < l.length := List.length_pos_iff.2 hl
  have hleft := hide (fun W hW => l5Left_any l hM hN (.slice ad l.length cap) W hW)
  have hopen := hide (fun W hW => l5Open_any l hN (.slice ad l.length cap) W hW)
  have hz0 : ((l.length : Int) == 0) = false := by simp; omega
  have HE : Hid (Pl.nextB l e = (!Pl.endK e.ck || (Pl.leftOf l == 1))) := by
    show _ = _
    unfold Pl.nextB
    rw [if_neg hl, if_neg hgood]
    rw [if_neg (by omega), if_pos hk]
  rw [HE.out]
  have ho : Pl.openB l = true := by
    cases hb : Pl.openB l
    · exact absurd (Or.inl hb) hgood
    · rfl
  have hk1 : (e.k == 1) = false := by
    have : ¬ e.k = 1 := fun hb => hgood (Or.inr (Or.inl hb))
    simp [this]
  have hb2 : decide (0 < Pl.leftOf l) = (e.k == 3) := Classical.byContradiction fun hb => hgood (Or.inr (Or.inr hb))
  have hend := hide (fun W => l5Ends_any e.ck e.cn e.ak e.an e.ax W)
  generalize Pl.endK e.ck = en at *
  have k2 : (e.k == 2) = false := by simp [hk]
  have k3 : (e.k == 3) = true := by simp [hk]
  rw [k3] at hb2
  clear hk
  clear hgood hM hl
  rw [ho] at hopen
  clear ho
  generalize Pl.leftOf l = lf at *
  go_enter Try.func33, Try.ntmps33
  go_wp2_with fail
  refine (hleft.out _ (HRW.out.later ((Below.refl _ _).alloc (Nat.le_refl _) _))).mono ?_
  rintro x1 w1 ⟨rfl, rfl⟩
  go_wp2_with fail
  refine (hopen.out _ (HRW.out.later ((Below.refl _ _).alloc (Nat.le_refl _) _))).mono ?_
  rintro x2 X ⟨rfl, hB2⟩
  have HBE := hide (BE.start.later hB2)
  have y0 : X.cell? ⟨w.heap.size, 0, none⟩ = some (.int .i64 e.k) := cell_of_block HBE.out.1 0
  clear hB2 hopen hleft
  have y5 : X.cell? ⟨w.heap.size, 5, none⟩ = some (.int .i64 e.ck) := cell_of_block HBE.out.1 5
  have y6 : X.cell? ⟨w.heap.size, 6, none⟩ = some (.string e.cn) := cell_of_block HBE.out.1 6
  have y7 : X.cell? ⟨w.heap.size, 7, none⟩ = some (.int .i64 e.ak) := cell_of_block HBE.out.1 7
  have y8 : X.cell? ⟨w.heap.size, 8, none⟩ = some (.int .i64 e.an) := cell_of_block HBE.out.1 8
  have y9 : X.cell? ⟨w.heap.size, 9, none⟩ = some (.string e.ax) := cell_of_block HBE.out.1 9
  go_wp2_with fail
  refine (hend.out _).mono ?_
  rintro x3 X3 ⟨rfl, hB3⟩
  have HB3 := hide (HBE.out.later hB3)
  clear hB3 HBE y0 y5 y6 y7 y8 y9
  cases en
  all_goals
    go_wp2_with fail
    go_ret
    exact ⟨by first | rfl | simp, HB3.out.2⟩
set_option maxRecDepth 100000 in
set_option maxHeartbeats 1600000 in
theorem next_came (l : List Ev) (hl : l ≠ []) (hM : ManyOk l) (hN : l.length ≤ 1048576) (v : Value) (e : Ev) (w : World) (hr : EvRow w l v) (hgood : ¬ (Pl.openB l = false ∨ e.k = 1 ∨ decide (0 < Pl.leftOf l) ≠ (e.k == 3))) (hk : e.k = 4) :
    Calls Try.prog 33 #[v, evV e] w fun x w' => x = .returned (.bool (Pl.nextB l e)) ∧ Below w.heap.size w w' := by
  have HRW := hide hr
  have hlb := left_bound l hM l.length (Nat.le_refl _)
  rw [List.take_length] at hlb
  obtain ⟨ad, cap, rfl, hc, hmx, hx⟩ := hr
  unfold maxLen at hmx
  clear hx
  have hlen0 : 0 < l.length := List.length_pos_iff.2 hl
  have hleft := hide (fun W hW => l5Left_any l hM hN (.slice ad l.length cap) W hW)
  have hopen := hide (fun W hW => l5Open_any l hN (.slice ad l.length cap) W hW)
  have hz0 : ((l.length : Int) == 0) = false := by simp; omega
  have HE : Hid (Pl.nextB l e = (Pl.mayP l e.ct e.mp && decide (((Pl.comesOf l).length : Int) < 60))) := by
    show _ = _
    unfold Pl.nextB
    rw [if_neg hl, if_neg hgood]
    rw [if_neg (by omega), if_neg (by omega), if_pos hk, mayB_eq]
  rw [HE.out]
  have ho : Pl.openB l = true := by
    cases hb : Pl.openB l
    · exact absurd (Or.inl hb) hgood
    · rfl
  have hk1 : (e.k == 1) = false := by
    have : ¬ e.k = 1 := fun hb => hgood (Or.inr (Or.inl hb))
    simp [this]
  have hb2 : decide (0 < Pl.leftOf l) = (e.k == 3) := Classical.byContradiction fun hb => hgood (Or.inr (Or.inr hb))
  have hmay := hide (fun W hW => l5May_any l hN (.slice ad l.length cap) e.ct e.mp e.mn e.mo e.wk e.wn e.wt W hW)
  have hcs := hide (fun W hW => l5Comes_any l hN (.slice ad l.length cap) W hW)
  have hlc : (Pl.comesOf l).length ≤ l.length := by unfold Pl.comesOf; exact List.length_filter_le _ _
  generalize Pl.mayP l e.ct e.mp = mb at *
  have k2 : (e.k == 2) = false := by simp [hk]
  have k3 : (e.k == 3) = false := by simp [hk]
  have k4 : (e.k == 4) = true := by simp [hk]
  rw [k3] at hb2
  clear hk
  clear hgood hM hl
  rw [ho] at hopen
  clear ho
  generalize Pl.leftOf l = lf at *
  go_enter Try.func33, Try.ntmps33
  go_wp2_with fail
  refine (hleft.out _ (HRW.out.later ((Below.refl _ _).alloc (Nat.le_refl _) _))).mono ?_
  rintro x1 w1 ⟨rfl, rfl⟩
  go_wp2_with fail
  refine (hopen.out _ (HRW.out.later ((Below.refl _ _).alloc (Nat.le_refl _) _))).mono ?_
  rintro x2 X ⟨rfl, hB2⟩
  have HBE := hide (BE.start.later hB2)
  have y0 : X.cell? ⟨w.heap.size, 0, none⟩ = some (.int .i64 e.k) := cell_of_block HBE.out.1 0
  clear hB2 hopen hleft
  have y10 : X.cell? ⟨w.heap.size, 10, none⟩ = some (.int .i64 e.ct) := cell_of_block HBE.out.1 10
  have y11 : X.cell? ⟨w.heap.size, 11, none⟩ = some (.int .i64 e.mp) := cell_of_block HBE.out.1 11
  have y12 : X.cell? ⟨w.heap.size, 12, none⟩ = some (.string e.mn) := cell_of_block HBE.out.1 12
  have y13 : X.cell? ⟨w.heap.size, 13, none⟩ = some (.bool e.mo) := cell_of_block HBE.out.1 13
  have y14 : X.cell? ⟨w.heap.size, 14, none⟩ = some (.int .i64 e.wk) := cell_of_block HBE.out.1 14
  have y15 : X.cell? ⟨w.heap.size, 15, none⟩ = some (.int .i64 e.wn) := cell_of_block HBE.out.1 15
  have y16 : X.cell? ⟨w.heap.size, 16, none⟩ = some (.string e.wt) := cell_of_block HBE.out.1 16
  go_wp2_with fail
  refine (hmay.out _ (HRW.out.later HBE.out.2)).mono ?_
  rintro x3 X3 ⟨rfl, hB3⟩
  have HB3 := hide (HBE.out.later hB3)
  clear hB3 HBE y0 y10 y11 y12 y13 y14 y15 y16
  cases mb
  · go_wp2_with fail
    go_ret
    exact ⟨by first | rfl | simp, HB3.out.2⟩
  · go_wp2_with fail
    refine (hcs.out _ (HRW.out.later HB3.out.2)).mono ?_
    rintro x4 X4 ⟨v4, rfl, ho4, hB4⟩
    have HB4 := hide (HB3.out.later hB4)
    obtain ⟨a4, c4, hv4⟩ := ownsRow_form ho4
    subst hv4
    clear hB4 HB3 ho4
    go_wp2_with fail
    go_ret
    exact ⟨by first | rfl | simp, HB4.out.2⟩
set_option maxRecDepth 100000 in
set_option maxHeartbeats 1600000 in
theorem next_else (l : List Ev) (hl : l ≠ []) (hM : ManyOk l) (hN : l.length ≤ 1048576) (v : Value) (e : Ev) (w : World) (hr : EvRow w l v) (hgood : ¬ (Pl.openB l = false ∨ e.k = 1 ∨ decide (0 < Pl.leftOf l) ≠ (e.k == 3))) (hk : ¬ e.k = 2 ∧ ¬ e.k = 3 ∧ ¬ e.k = 4) :
    Calls Try.prog 33 #[v, evV e] w fun x w' => x = .returned (.bool (Pl.nextB l e)) ∧ Below w.heap.size w w' := by
  have HRW := hide hr
  have hlb := left_bound l hM l.length (Nat.le_refl _)
  rw [List.take_length] at hlb
  obtain ⟨ad, cap, rfl, hc, hmx, hx⟩ := hr
  unfold maxLen at hmx
  clear hx
  have hlen0 : 0 < l.length := List.length_pos_iff.2 hl
  have hleft := hide (fun W hW => l5Left_any l hM hN (.slice ad l.length cap) W hW)
  have hopen := hide (fun W hW => l5Open_any l hN (.slice ad l.length cap) W hW)
  have hz0 : ((l.length : Int) == 0) = false := by simp; omega
  have HE : Hid (Pl.nextB l e = (true)) := by
    show _ = _
    unfold Pl.nextB
    rw [if_neg hl, if_neg hgood]
    rw [if_neg hk.1, if_neg hk.2.1, if_neg hk.2.2]
  rw [HE.out]
  have ho : Pl.openB l = true := by
    cases hb : Pl.openB l
    · exact absurd (Or.inl hb) hgood
    · rfl
  have hk1 : (e.k == 1) = false := by
    have : ¬ e.k = 1 := fun hb => hgood (Or.inr (Or.inl hb))
    simp [this]
  have hb2 : decide (0 < Pl.leftOf l) = (e.k == 3) := Classical.byContradiction fun hb => hgood (Or.inr (Or.inr hb))
  have k2 : (e.k == 2) = false := by simp [hk.1]
  have k3 : (e.k == 3) = false := by simp [hk.2.1]
  have k4 : (e.k == 4) = false := by simp [hk.2.2]
  rw [k3] at hb2
  clear hk
  clear hgood hM hl
  rw [ho] at hopen
  clear ho
  generalize Pl.leftOf l = lf at *
  go_enter Try.func33, Try.ntmps33
  go_wp2_with fail
  refine (hleft.out _ (HRW.out.later ((Below.refl _ _).alloc (Nat.le_refl _) _))).mono ?_
  rintro x1 w1 ⟨rfl, rfl⟩
  go_wp2_with fail
  refine (hopen.out _ (HRW.out.later ((Below.refl _ _).alloc (Nat.le_refl _) _))).mono ?_
  rintro x2 X ⟨rfl, hB2⟩
  have HBE := hide (BE.start.later hB2)
  have y0 : X.cell? ⟨w.heap.size, 0, none⟩ = some (.int .i64 e.k) := cell_of_block HBE.out.1 0
  clear hB2 hopen hleft
  go_wp2_with fail
  go_ret
  exact ⟨rfl, HBE.out.2⟩
theorem l5Next_any (l : List Ev) (hM : ManyOk l) (hN : l.length ≤ 1048576) (v : Value) (e : Ev) (hm : e.k = 2 → 0 ≤ e.many ∧ e.many ≤ 40) (w : World) (hr : EvRow w l v) :
    Calls Try.prog 33 #[v, evV e] w fun x w' => x = .returned (.bool (Pl.nextB l e)) ∧ Below w.heap.size w w' := by
  by_cases hl : l = []
  · subst hl
    exact next_nil e v w hr
  · by_cases hbad : Pl.openB l = false ∨ e.k = 1 ∨ decide (0 < Pl.leftOf l) ≠ (e.k == 3)
    · exact next_bad l hl hM hN v e w hr hbad
    · by_cases k2 : e.k = 2
      · exact next_task l hl hM hN v e w hr hbad k2 (hm k2)
      · by_cases k3 : e.k = 3
        · exact next_cmd l hl hM hN v e w hr hbad k3
        · by_cases k4 : e.k = 4
          · exact next_came l hl hM hN v e w hr hbad k4
          · exact next_else l hl hM hN v e w hr hbad ⟨k2, k3, k4⟩
end Go.Proofs.Ytobeecopkfgplaa
