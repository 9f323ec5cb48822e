/- Whether an event has what its kind needs, as the specification asks it. -/
import Derived.Test.YthimglgjeibaoaaEqZ
import Derived.Test.YthimglgjeibaoaaCmd1
import Derived.Test.YthimglgjeibaoaaCame2
namespace Go.Proofs.Ythimglgjeibaoaa
open Go.RowKit
set_option linter.unusedVariables false
set_option linter.unusedSimpArgs false
/-- an event has what its kind needs, and nothing else -/
def Pl.evB (e : Ev) : Bool :=
  if e.k = 1 then Pl.okB e.vk e.vn e.vt && ((e.many == 0) && (Pl.noCmd e.ck e.cn e.ak e.an e.ax && Pl.noCame e.ct e.mp e.mn e.mo e.wk e.wn e.wt))
  else if e.k = 2 then Pl.noVal e.vk e.vn e.vt && ((decide (0 ≤ e.many) && decide (e.many ≤ 40)) && (Pl.noCmd e.ck e.cn e.ak e.an e.ax && Pl.noCame e.ct e.mp e.mn e.mo e.wk e.wn e.wt))
  else if e.k = 3 then Pl.noVal e.vk e.vn e.vt && ((e.many == 0) && (Pl.cmdB e.ck e.cn e.ak e.an e.ax && Pl.noCame e.ct e.mp e.mn e.mo e.wk e.wn e.wt))
  else if e.k = 4 then Pl.noVal e.vk e.vn e.vt && ((e.many == 0) && (Pl.noCmd e.ck e.cn e.ak e.an e.ax && Pl.cameB e.ct e.mp e.mn e.mo e.wk e.wn e.wt))
  else if e.k = 5 then Pl.noVal e.vk e.vn e.vt && ((e.many == 0) && (Pl.noCmd e.ck e.cn e.ak e.an e.ax && Pl.noCame e.ct e.mp e.mn e.mo e.wk e.wn e.wt))
  else false
set_option maxHeartbeats 3200000 in
theorem l5Event_any (e : Ev) (hw : e.Wf) (w : World) :
    Calls Try.prog 26 #[evV e] w fun x w' => x = .returned (.bool (Pl.evB e)) ∧ Below w.heap.size w w' := by
  obtain ⟨t1, t2, t3, t4, t5⟩ := hw
  have hE1 := eqlVal0 e.vk e.vn e.vt
  have hE2 := eqlCmd0 e.ck e.cn e.ak e.an e.ax
  have hE3 := eqlCame0 e.ct e.mp e.mn e.mo e.wk e.wn e.wt
  have hv := hide (specValueOk_any e.vk e.vn e.vt t1)
  have hc := hide (specCmdOk_any e.ck e.cn e.ak e.an e.ax t2 t3)
  have hm := hide (specCameOk_any e.ct e.mp e.mn e.mo e.wk e.wn e.wt t4 t5)
  have hi := hide (in_any e.many 0 40)
  clear t1 t2 t3 t4 t5
  unfold Pl.evB
  generalize Pl.noVal e.vk e.vn e.vt = v0 at *
  generalize Pl.noCmd e.ck e.cn e.ak e.an e.ax = c0 at *
  generalize Pl.noCame e.ct e.mp e.mn e.mo e.wk e.wn e.wt = m0 at *
  generalize Pl.okB e.vk e.vn e.vt = vb at *
  generalize Pl.cmdB e.ck e.cn e.ak e.an e.ax = cb at *
  generalize Pl.cameB e.ct e.mp e.mn e.mo e.wk e.wn e.wt = mb at *
  generalize (decide (0 ≤ e.many) && decide (e.many ≤ 40)) = rb at *
  by_cases k1 : e.k = 1
  · rw [if_pos k1]
    have q1 : (e.k == 1) = true := by simp [k1]
    clear hc hm hi k1
    go_enter Try.func26, Try.ntmps26
    go_wp2_with fail
    refine (hv.out _).mono ?_
    rintro x w1 ⟨rfl, hB1⟩
    obtain ⟨z, hat⟩ := Box17.of (e := e) hB1 (by simp)
    obtain ⟨d0, d1, d2, d3, d4, d5, d6, d7, d8, d9, d10, d11, d12, d13, d14, d15, d16⟩ := hat.cells
    have HB1 := hide (below_box1 hB1)
    clear hB1 hv hat hE1 hE2 hE3
    cases vb <;> cases q2 : (e.many == 0) <;> cases c0
    all_goals
      go_wp2
      go_ret
      exact ⟨by first | rfl | (simp; done) | (simp [*]; done), HB1.out⟩
  · rw [if_neg k1]
    have q1 : (e.k == 1) = false := by simp [k1]
    by_cases k2 : e.k = 2
    · rw [if_pos k2]
      have q2 : (e.k == 2) = true := by simp [k2]
      clear hc hm hv k1 k2
      cases v0
      · go_enter Try.func26, Try.ntmps26
        go_wp2
        go_ret
        exact ⟨by first | rfl | (simp; done) | (simp [*]; done), (Below.refl _ _).alloc (Nat.le_refl _) _⟩
      · go_enter Try.func26, Try.ntmps26
        go_wp2_with fail
        refine (hi.out _).mono ?_
        rintro x w1 ⟨rfl, rfl⟩
        cases rb <;> cases c0
        all_goals
          go_wp2
          go_ret
          exact ⟨by first | rfl | (simp; done) | (simp [*]; done), (Below.refl _ _).alloc (Nat.le_refl _) _⟩
    · rw [if_neg k2]
      have q2 : (e.k == 2) = false := by simp [k2]
      by_cases k3 : e.k = 3
      · rw [if_pos k3]
        have q3 : (e.k == 3) = true := by simp [k3]
        clear hi hm hv k1 k2 k3
        cases v0
        · go_enter Try.func26, Try.ntmps26
          go_wp2
          go_ret
          exact ⟨by first | rfl | (simp; done) | (simp [*]; done), (Below.refl _ _).alloc (Nat.le_refl _) _⟩
        · cases q4 : (e.many == 0)
          · go_enter Try.func26, Try.ntmps26
            go_wp2
            go_ret
            exact ⟨by first | rfl | (simp; done) | (simp [*]; done), (Below.refl _ _).alloc (Nat.le_refl _) _⟩
          · go_enter Try.func26, Try.ntmps26
            go_wp2_with fail
            refine (hc.out _).mono ?_
            rintro x w1 ⟨rfl, hB1⟩
            have HB1 := hide (below_box1 hB1)
            clear hB1 hc hE1 hE2 hE3
            cases cb
            all_goals
              go_wp2
              go_ret
              exact ⟨by first | rfl | (simp; done) | (simp [*]; done), HB1.out⟩
      · rw [if_neg k3]
        have q3 : (e.k == 3) = false := by simp [k3]
        by_cases k4 : e.k = 4
        · rw [if_pos k4]
          have q4 : (e.k == 4) = true := by simp [k4]
          clear hi hc hv k1 k2 k3 k4
          cases v0
          · go_enter Try.func26, Try.ntmps26
            go_wp2
            go_ret
            exact ⟨by first | rfl | (simp; done) | (simp [*]; done), (Below.refl _ _).alloc (Nat.le_refl _) _⟩
          · cases q5 : (e.many == 0)
            · go_enter Try.func26, Try.ntmps26
              go_wp2
              go_ret
              exact ⟨by first | rfl | (simp; done) | (simp [*]; done), (Below.refl _ _).alloc (Nat.le_refl _) _⟩
            · cases c0
              · go_enter Try.func26, Try.ntmps26
                go_wp2
                go_ret
                exact ⟨by first | rfl | (simp; done) | (simp [*]; done), (Below.refl _ _).alloc (Nat.le_refl _) _⟩
              · go_enter Try.func26, Try.ntmps26
                go_wp2_with fail
                refine (hm.out _).mono ?_
                rintro x w1 ⟨rfl, hB1⟩
                have HB1 := hide (below_box1 hB1)
                clear hB1 hm hE1 hE2 hE3
                go_wp2
                go_ret
                exact ⟨by first | rfl | (simp; done) | (simp [*]; done), HB1.out⟩
        · rw [if_neg k4]
          have q4 : (e.k == 4) = false := by simp [k4]
          clear hi hc hv hm
          by_cases k5 : e.k = 5
          · rw [if_pos k5]
            have q5 : (e.k == 5) = true := by simp [k5]
            clear k1 k2 k3 k4 k5
            cases v0 <;> cases q6 : (e.many == 0) <;> cases c0
            all_goals
              go_enter Try.func26, Try.ntmps26
              go_wp2
              go_ret
              exact ⟨by first | rfl | (simp; done) | (simp [*]; done), (Below.refl _ _).alloc (Nat.le_refl _) _⟩
          · rw [if_neg k5]
            have q5 : (e.k == 5) = false := by simp [k5]
            clear k1 k2 k3 k4 k5
            go_enter Try.func26, Try.ntmps26
            go_wp2
            go_ret
            exact ⟨by first | rfl | (simp; done) | (simp [*]; done), (Below.refl _ _).alloc (Nat.le_refl _) _⟩
end Go.Proofs.Ythimglgjeibaoaa
