/- What the program knows with one more event that may stand there. -/
import Derived.Test.YthimglgjeibaoaaImS
namespace Go.Proofs.Ythimglgjeibaoaa
open Go.RowKit
set_option linter.unusedVariables false
set_option linter.unusedSimpArgs false
set_option maxRecDepth 100000 in
set_option maxHeartbeats 3200000 in
theorem with_came (h : Pl.Past) (hz : h.opn.length = 40) (e : Ev) (hw : e.Wf) (w : World) (hgo : Pl.stopB Pl.evB h e = false) (hk : e.k = 4) (hE : 0 ≤ h.events ∧ h.events ≤ 1000000) (hc : 0 ≤ h.came ∧ h.came ≤ 1000000) (hm : e.ct = 4 ∨ (¬ e.ct = 4 ∧ ∃ n : Nat, e.mp = n ∧ n < 40)) :
    Calls Try.prog 18 #[pastV h, evV e] w fun x w' => x = .returned (.tuple #[pastV (Pl.pwith Pl.evB h e).1, .bool (Pl.pwith Pl.evB h e).2]) ∧ Below w.heap.size w w' := by
  have hov : h.over = false := by
    cases hq : h.over
    · rfl
    · simp [Pl.stopB, hq] at hgo
  have hfe : Pl.evB e = true := by
    cases hq : Pl.evB e
    · simp [Pl.stopB, hq] at hgo
    · rfl
  have hb1 : (h.events == 0) = (e.k == 1) := by
    have := hgo
    simp only [Pl.stopB, hov, hfe, Bool.false_or, Bool.not_true, Bool.or_eq_false_iff] at this
    simpa using this.1
  have hb2 : decide (0 < h.due) = (e.k == 3) := by
    have := hgo
    simp only [Pl.stopB, hov, hfe, Bool.false_or, Bool.not_true, Bool.or_eq_false_iff] at this
    simpa using this.2
  unfold pastV
  have hs := hide (pastC_ok h hz)
  have c0 := pastC_0 h
  have c4 := pastC_4 h
  have c46 := pastC_46 h hz
  have hfit := hide (fits_any e hw)
  rw [hfe] at hfit
  rw [hov] at c46
  have HP : Hid (Pl.pwith Pl.evB h e = Pl.withCame { h with events := h.events + 1 } e.ct e.mp) := by show _ = _; simp [Pl.pwith, hgo, hk]
  rw [HP.out]
  clear HP
  have hz2 : (Pl.withCame { h with events := h.events + 1 } e.ct e.mp).1.opn.length = 40 := by unfold Pl.withCame; split <;> simp [hz]
  have hs2 := hide (pastC_ok _ hz2)
  have hcall : Hid (∀ W, Calls Try.prog 37 #[pastV { h with events := h.events + 1 }, cameV e.ct e.mp e.mn e.mo e.wk e.wn e.wt] W fun x w' => x = .returned (.tuple #[pastV (Pl.withCame { h with events := h.events + 1 } e.ct e.mp).1, .bool (Pl.withCame { h with events := h.events + 1 } e.ct e.mp).2]) ∧ Below W.heap.size W w') := by
    intro W
    rcases hm with h4 | ⟨h4, n, hn, hn1⟩
    · have := withCame_sig { h with events := h.events + 1 } hz e.mp e.mn e.mo e.wk e.wn e.wt W hc
      rw [h4]; exact this
    · have := withCame_place { h with events := h.events + 1 } hz e.ct h4 n hn1 e.mn e.mo e.wk e.wn e.wt W hc
      rw [hn]; exact this
  unfold pastV at hcall
  generalize (Pl.withCame { h with events := h.events + 1 } e.ct e.mp).2 = rb at *
  generalize pastC (Pl.withCame { h with events := h.events + 1 } e.ct e.mp).1 = C2 at *
  clear hz2
  have k1 : (e.k == 1) = false := by simp [hk]
  have k2 : (e.k == 2) = false := by simp [hk]
  have k3 : (e.k == 3) = false := by simp [hk]
  have k4 : (e.k == 4) = true := by simp [hk]
  have k5 : (e.k == 5) = false := by simp [hk]
  clear hc hm hk
  rw [k1] at hb1
  rw [k3] at hb2
  have HC1 : Hid ((pastC h).setIfInBounds 0 (.int .i64 (h.events + 1)) = pastC { h with events := h.events + 1 }) := pastC_set0 h _
  have hs1 := hide (pastC_ok { h with events := h.events + 1 } hz)
  generalize pastC { h with events := h.events + 1 } = C1 at *
  generalize pastC h = C at *
  generalize h.events = ev at *
  generalize h.due = du at *
  obtain ⟨hE0, hE1⟩ := hE
  clear hz hov hfe hgo hw
  go_enter Try.func18, Try.ntmps18
  go_wp2_with fail
  go_quiet (fail)
  refine gen_exit (fun X => Hid (B3 w C e X)) ⟨by simp only [World.heap_drewN]; exact top3 _ _ _ _, by simp only [World.heap_drewN]; exact top3' _ _ _ _, ⟨_, by simp only [World.heap_drewN]; exact top3'' _ _ _ _, rfl⟩, below_drewN' (bel3 _ _ _ _) _⟩ ?_
  intro X HX
  have x46 : X.cell? ⟨w.heap.size, 46, none⟩ = some (.bool false) := (cell_of_block HX.out.1 46).trans c46
  have HBE := hide HX.out.2.1
  go_wp2_with (first
   | (with_reducible show wpList _ _ _ (Oper.mk _ (Op.load 46 _) _ _ _ _ :: _) _ _; refine we_load rfl (.tmp 3) rfl (w.heap.size + 1) rfl _ HBE.out (evL_ok e) ?_)
   | fail)
  refine (hfit.out _).mono ?_
  rintro x1 X1 ⟨rfl, hB1⟩
  have HX1 := hide (HX.out.later hB1)
  clear hB1 HX x46 HBE
  have x0 : X1.cell? ⟨w.heap.size, 0, none⟩ = some (.int .i64 ev) := (cell_of_block HX1.out.1 0).trans c0
  have f0 : X1.frozen? ⟨w.heap.size, 0, none⟩ = false := free_of_block HX1.out.1 0
  have y0 : X1.cell? ⟨w.heap.size + 1, 0, none⟩ = some (.int .i64 e.k) := cell_of_block HX1.out.2.1 0
  have y10 : X1.cell? ⟨w.heap.size + 1, 10, none⟩ = some (.int .i64 e.ct) := cell_of_block HX1.out.2.1 10
  have y11 : X1.cell? ⟨w.heap.size + 1, 11, none⟩ = some (.int .i64 e.mp) := cell_of_block HX1.out.2.1 11
  have y12 : X1.cell? ⟨w.heap.size + 1, 12, none⟩ = some (.string e.mn) := cell_of_block HX1.out.2.1 12
  have y13 : X1.cell? ⟨w.heap.size + 1, 13, none⟩ = some (.bool e.mo) := cell_of_block HX1.out.2.1 13
  have y14 : X1.cell? ⟨w.heap.size + 1, 14, none⟩ = some (.int .i64 e.wk) := cell_of_block HX1.out.2.1 14
  have y15 : X1.cell? ⟨w.heap.size + 1, 15, none⟩ = some (.int .i64 e.wn) := cell_of_block HX1.out.2.1 15
  have y16 : X1.cell? ⟨w.heap.size + 1, 16, none⟩ = some (.string e.wt) := cell_of_block HX1.out.2.1 16
  have HX2 := hide (HX1.out.set 0 (.int .i64 (ev + 1)))
  rw [HC1.out] at HX2
  have HBK := hide HX2.out.1
  clear HX1 c0 c4 c46
  go_wp2_with (first
   | (with_reducible show wpList _ _ _ (Oper.mk _ (Op.load 50 _) _ _ _ _ :: _) _ _; refine wl61 rfl (.tmp 2) rfl w.heap.size rfl _ HBK.out hs1.out ?_)
   | fail)
  refine (hcall.out _).mono ?_
  rintro x3 X3 ⟨rfl, hB3⟩
  have HX3 := hide (HX2.out.later hB3)
  clear hB3 HX2 HBK x0 f0 y0 y10 y11 y12 y13 y14 y15 y16
  obtain ⟨Z, hZ2, hZ⟩ := HX3.out.2.2.1
  go_wp2_with (first
   | (with_reducible show wpList _ _ _ (Oper.mk _ (Op.store 50 _ _) _ _ _ _ :: _) _ _; refine ws61 rfl (.tmp 4) (.tmp 64) rfl (w.heap.size + 1 + 1) rfl _ rfl _ hZ2 hZ hs2.out ?_; intro W9 hW9))
  refine bodyPost_ret (results_past Try.results18 _ W9 (w.heap.size + 1 + 1) C2 rfl (by rw [hW9.out]; exact setRow_heap _ _ _ _ _ _ hZ2) hs2.out) rfl ⟨?_, ?_⟩
  · rfl
  · rw [hW9.out]; exact below_setRow HX3.out.2.2.2 (by omega) _
end Go.Proofs.Ythimglgjeibaoaa
