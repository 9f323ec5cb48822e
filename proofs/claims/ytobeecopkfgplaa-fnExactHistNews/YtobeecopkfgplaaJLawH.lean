/- Joined: ImH LawHi. -/
import Derived.Test.YtobeecopkfgplaaImP
import Derived.Test.YtobeecopkfgplaaLwR
import Derived.Test.YtobeecopkfgplaaLwE
import Derived.Test.YtobeecopkfgplaaSpH
/- What the program tells of a history: whether it is one, goes on, has news, its tasks. -/
namespace Go.Proofs.Ytobeecopkfgplaa
open Go.RowKit
set_option linter.unusedVariables false
set_option linter.unusedSimpArgs false
theorem pastB_size (l : List Ev) : (Pl.pastB Pl.evB l).1.opn.length = 40 := by
  unfold Pl.pastB
  split
  · simp [Pl.Past.none]
  · exact walk_size l Pl.Past.none (by simp [Pl.Past.none])
theorem below_top {w X1 : World} {o : Obj} (h : Below w.heap.size w X1) : Below w.heap.size w (X1.alloc o) := h.alloc h.size o
set_option maxRecDepth 100000 in
set_option maxHeartbeats 1600000 in
theorem implHistOk_any (l : List Ev) (hwf : ∀ e ∈ l, e.Wf) (hN : l.length ≤ 1048576) (v : Value) (w : World) (hr : EvRow w l v) :
    Calls Try.prog 12 #[v] w fun x w' => x = .returned (.bool (Pl.pastB Pl.evB l).2) ∧ Below w.heap.size w w' := by
  have hp := hide (pastOf_any l hwf hN v w hr)
  have hok := hide (pastC_ok _ (pastB_size l))
  unfold pastV at hp
  obtain ⟨ad, cap, rfl, hc, hmx, hx⟩ := hr
  clear hx
  generalize (Pl.pastB Pl.evB l).2 = rb at *
  generalize pastC (Pl.pastB Pl.evB l).1 = C at *
  go_enter Try.func12, Try.ntmps12
  go_wp2_with fail
  refine hp.out.mono ?_
  rintro x1 X1 ⟨rfl, hB1⟩
  have HB1 := hide hB1
  clear hB1 hp
  go_wp2_with (first
    | (with_reducible show wpList _ _ _ (Oper.mk _ (Op.store 61 _ _) _ _ _ _ :: _) _ _; refine ws61top rfl (.tmp 3) (.tmp 8) rfl rfl _ rfl rfl hok.out ?_))
  go_ret
  exact ⟨rfl, below_top HB1.out⟩
set_option maxRecDepth 100000 in
set_option maxHeartbeats 1600000 in
theorem implHistOpen_any (l : List Ev) (hwf : ∀ e ∈ l, e.Wf) (hN : l.length ≤ 1048576) (v : Value) (w : World) (hr : EvRow w l v) :
    Calls Try.prog 15 #[v] w fun x w' => x = .returned (.bool ((Pl.pastB Pl.evB l).2 && !(Pl.pastB Pl.evB l).1.over)) ∧ Below w.heap.size w w' := by
  have hp := hide (pastOf_any l hwf hN v w hr)
  have hok := hide (pastC_ok _ (pastB_size l))
  have c46 := pastC_46 _ (pastB_size l)
  unfold pastV at hp
  obtain ⟨ad, cap, rfl, hc, hmx, hx⟩ := hr
  clear hx
  generalize (Pl.pastB Pl.evB l).2 = rb at *
  generalize pastC (Pl.pastB Pl.evB l).1 = C at *
  generalize (Pl.pastB Pl.evB l).1.over = ov at *
  cases rb
  all_goals
    go_enter Try.func15, Try.ntmps15
    go_wp2_with fail
    refine hp.out.mono ?_
    rintro x1 X1 ⟨rfl, hB1⟩
    have HB1 := hide hB1
    clear hB1 hp
    go_wp2_with (first
      | (with_reducible show wpList _ _ _ (Oper.mk _ (Op.store 61 _ _) _ _ _ _ :: _) _ _; refine ws61top rfl (.tmp 3) (.tmp 8) rfl rfl _ rfl rfl hok.out ?_))
    go_ret
    exact ⟨by first | rfl | simp, below_top HB1.out⟩
set_option maxRecDepth 100000 in
set_option maxHeartbeats 1600000 in
theorem implHistNews_any (l : List Ev) (hwf : ∀ e ∈ l, e.Wf) (hN : l.length ≤ 1048576) (v : Value) (w : World) (hr : EvRow w l v) :
    Calls Try.prog 17 #[v] w fun x w' => x = .returned (.bool ((Pl.pastB Pl.evB l).2 && ((Pl.pastB Pl.evB l).1.news && !(Pl.pastB Pl.evB l).1.over))) ∧ Below w.heap.size w w' := by
  have hp := hide (pastOf_any l hwf hN v w hr)
  have hok := hide (pastC_ok _ (pastB_size l))
  have c46 := pastC_46 _ (pastB_size l)
  have c45 := pastC_45 _ (pastB_size l)
  unfold pastV at hp
  obtain ⟨ad, cap, rfl, hc, hmx, hx⟩ := hr
  clear hx
  generalize (Pl.pastB Pl.evB l).2 = rb at *
  generalize pastC (Pl.pastB Pl.evB l).1 = C at *
  generalize (Pl.pastB Pl.evB l).1.over = ov at *
  generalize (Pl.pastB Pl.evB l).1.news = nw at *
  cases rb <;> cases nw
  all_goals
    go_enter Try.func17, Try.ntmps17
    go_wp2_with fail
    refine hp.out.mono ?_
    rintro x1 X1 ⟨rfl, hB1⟩
    have HB1 := hide hB1
    clear hB1 hp
    go_wp2_with (first
      | (with_reducible show wpList _ _ _ (Oper.mk _ (Op.store 61 _ _) _ _ _ _ :: _) _ _; refine ws61top rfl (.tmp 3) (.tmp 8) rfl rfl _ rfl rfl hok.out ?_))
    go_ret
    exact ⟨by first | rfl | simp, below_top HB1.out⟩
set_option maxRecDepth 100000 in
set_option maxHeartbeats 1600000 in
theorem implHistTasks_any (l : List Ev) (hwf : ∀ e ∈ l, e.Wf) (hN : l.length ≤ 1048576) (v : Value) (w : World) (hr : EvRow w l v) :
    Calls Try.prog 19 #[v] w fun x w' => x = .returned (.int .i64 (if (Pl.pastB Pl.evB l).2 = true then (Pl.pastB Pl.evB l).1.tasks else 0)) ∧ Below w.heap.size w w' := by
  have hp := hide (pastOf_any l hwf hN v w hr)
  have hok := hide (pastC_ok _ (pastB_size l))
  have c1 := pastC_1 (Pl.pastB Pl.evB l).1
  unfold pastV at hp
  obtain ⟨ad, cap, rfl, hc, hmx, hx⟩ := hr
  clear hx
  generalize (Pl.pastB Pl.evB l).2 = rb at *
  generalize pastC (Pl.pastB Pl.evB l).1 = C at *
  generalize (Pl.pastB Pl.evB l).1.tasks = tk at *
  cases rb
  all_goals
    go_enter Try.func19, Try.ntmps19
    go_wp2_with fail
    refine hp.out.mono ?_
    rintro x1 X1 ⟨rfl, hB1⟩
    have HB1 := hide hB1
    clear hB1 hp
    go_wp2_with (first
      | (with_reducible show wpList _ _ _ (Oper.mk _ (Op.store 61 _ _) _ _ _ _ :: _) _ _; refine ws61top rfl (.tmp 3) (.tmp 8) rfl rfl _ rfl rfl hok.out ?_))
    go_ret
    exact ⟨by first | rfl | simp, below_top HB1.out⟩
end Go.Proofs.Ytobeecopkfgplaa

/- The laws on histories, walked: whether events are one, go on, have news, and how many tasks. -/
namespace Go.Proofs.Ytobeecopkfgplaa
open Go.RowKit
set_option linter.unusedVariables false
set_option linter.unusedSimpArgs false
set_option maxRecDepth 100000 in
set_option maxHeartbeats 1600000 in
theorem lawHistOk_any (l : List Ev) (hwf : ∀ e ∈ l, e.Wf) (v : Value) (w : World) (hr : EvRow w l v) :
    Calls Try.prog 3 #[v] w fun x w' => x = .returned (.bool true) ∧ Below w.heap.size w w' := by
  have HRW := hide hr
  have HW := hide hwf
  have hsz := hide (fun W hW => szEventS_any l hwf v W hW)
  obtain ⟨ad, cap, rfl, hc, hmx, hx⟩ := hr
  clear hx hwf
  obtain ⟨rv, HQ⟩ : ∃ rv, Hid (Pl.histB Pl.evB l = rv ∧ (Pl.pastB Pl.evB l).2 = rv) := ⟨_, rfl, (Pl.past_hist evB_fit l).1⟩
  cases rv
  all_goals
    go_enter Try.func3, Try.ntmps3
    go_wp2_with fail
    refine (hsz.out _ HRW.out).mono ?_
    rintro x1 w1 ⟨⟨r, rfl, hr0⟩, hB1⟩
    have HB1 := hide hB1
    have HR0 := hide hr0
    clear hB1 hsz hr0
    by_cases n1 : r < 0
    · go_wp2_with fail
      go_ret
      exact ⟨rfl, HB1.out⟩
    · have hN : l.length ≤ 1048576 := HR0.out (by omega)
      have hto := hide (fun W hW => toEventS_any l hN (.slice ad l.length cap) W hW)
      have hsp := hide (fun v W hW => specHistOk_any l HW.out hN v W hW)
      have him := hide (fun v W hW => implHistOk_any l HW.out hN v W hW)
      have heq := hide (fun va vb W ha hb => eqEventS_any l hN va vb W ha hb)
      have HEQ := hide (HQ.out)
      rw [HEQ.out.1] at hsp
      rw [HEQ.out.2] at him
      go_wp2_with fail
      refine (hto.out _ (HRW.out.later HB1.out)).mono ?_
      rintro x2 w2 ⟨rfl, ht2⟩
      have HR2 := hide (ht2.done hN)
      have HB2 := hide (HB1.out.trans (ht2.2.2.mono HB1.out.size))
      clear ht2
      go_wp2_with fail
      refine (hsp.out _ _ HR2.out).mono ?_
      rintro x3 w3 ⟨rfl, hB3⟩
      have HB3 := hide (HB2.out.trans (hB3.mono HB2.out.size))
      clear hB3 hsp HR2
      go_wp2_with fail
      refine (hto.out _ (HRW.out.later HB3.out)).mono ?_
      rintro x4 w4 ⟨rfl, ht4⟩
      have HR4 := hide (ht4.done hN)
      have HB4 := hide (HB3.out.trans (ht4.2.2.mono HB3.out.size))
      clear ht4
      go_wp2_with fail
      refine (him.out _ _ HR4.out).mono ?_
      rintro x5 w5 ⟨rfl, hB5⟩
      have HR5 := hide (HR4.out.later hB5)
      have HB5 := hide (HB4.out.trans (hB5.mono HB4.out.size))
      clear hB5 him HR4
      go_wp2_with fail
      refine (hto.out _ (HRW.out.later HB5.out)).mono ?_
      rintro x6 w6 ⟨rfl, ht6⟩
      have HR6 := hide (ht6.done hN)
      have HX6 := hide (HR5.out.later ht6.2.2)
      have HB6 := hide (HB5.out.trans (ht6.2.2.mono HB5.out.size))
      clear ht6 HR5
      go_wp2_with fail
      refine (heq.out _ _ _ HX6.out HR6.out).mono ?_
      rintro x7 w7 ⟨rfl, hB7⟩
      have HB7 := hide (HB6.out.trans (hB7.mono HB6.out.size))
      clear hB7
      go_wp2_with fail
      go_ret
      exact ⟨rfl, HB7.out⟩
set_option maxRecDepth 100000 in
set_option maxHeartbeats 1600000 in
theorem lawHistOpen_any (l : List Ev) (hwf : ∀ e ∈ l, e.Wf) (v : Value) (w : World) (hr : EvRow w l v) :
    Calls Try.prog 4 #[v] w fun x w' => x = .returned (.bool true) ∧ Below w.heap.size w w' := by
  have HRW := hide hr
  have HW := hide hwf
  have hsz := hide (fun W hW => szEventS_any l hwf v W hW)
  obtain ⟨ad, cap, rfl, hc, hmx, hx⟩ := hr
  clear hx hwf
  obtain ⟨rv, HQ⟩ : ∃ rv, Hid ((Pl.histB Pl.evB l && Pl.openB l) = rv ∧ ((Pl.pastB Pl.evB l).2 && !(Pl.pastB Pl.evB l).1.over) = rv) := ⟨_, rfl, Pl.hist_open evB_fit l⟩
  cases rv
  all_goals
    go_enter Try.func4, Try.ntmps4
    go_wp2_with fail
    refine (hsz.out _ HRW.out).mono ?_
    rintro x1 w1 ⟨⟨r, rfl, hr0⟩, hB1⟩
    have HB1 := hide hB1
    have HR0 := hide hr0
    clear hB1 hsz hr0
    by_cases n1 : r < 0
    · go_wp2_with fail
      go_ret
      exact ⟨rfl, HB1.out⟩
    · have hN : l.length ≤ 1048576 := HR0.out (by omega)
      have hto := hide (fun W hW => toEventS_any l hN (.slice ad l.length cap) W hW)
      have hsp := hide (fun v W hW => specHistOpen_any l HW.out hN v W hW)
      have him := hide (fun v W hW => implHistOpen_any l HW.out hN v W hW)
      have heq := hide (fun va vb W ha hb => eqEventS_any l hN va vb W ha hb)
      have HEQ := hide (HQ.out)
      rw [HEQ.out.1] at hsp
      rw [HEQ.out.2] at him
      go_wp2_with fail
      refine (hto.out _ (HRW.out.later HB1.out)).mono ?_
      rintro x2 w2 ⟨rfl, ht2⟩
      have HR2 := hide (ht2.done hN)
      have HB2 := hide (HB1.out.trans (ht2.2.2.mono HB1.out.size))
      clear ht2
      go_wp2_with fail
      refine (hsp.out _ _ HR2.out).mono ?_
      rintro x3 w3 ⟨rfl, hB3⟩
      have HB3 := hide (HB2.out.trans (hB3.mono HB2.out.size))
      clear hB3 hsp HR2
      go_wp2_with fail
      refine (hto.out _ (HRW.out.later HB3.out)).mono ?_
      rintro x4 w4 ⟨rfl, ht4⟩
      have HR4 := hide (ht4.done hN)
      have HB4 := hide (HB3.out.trans (ht4.2.2.mono HB3.out.size))
      clear ht4
      go_wp2_with fail
      refine (him.out _ _ HR4.out).mono ?_
      rintro x5 w5 ⟨rfl, hB5⟩
      have HR5 := hide (HR4.out.later hB5)
      have HB5 := hide (HB4.out.trans (hB5.mono HB4.out.size))
      clear hB5 him HR4
      go_wp2_with fail
      refine (hto.out _ (HRW.out.later HB5.out)).mono ?_
      rintro x6 w6 ⟨rfl, ht6⟩
      have HR6 := hide (ht6.done hN)
      have HX6 := hide (HR5.out.later ht6.2.2)
      have HB6 := hide (HB5.out.trans (ht6.2.2.mono HB5.out.size))
      clear ht6 HR5
      go_wp2_with fail
      refine (heq.out _ _ _ HX6.out HR6.out).mono ?_
      rintro x7 w7 ⟨rfl, hB7⟩
      have HB7 := hide (HB6.out.trans (hB7.mono HB6.out.size))
      clear hB7
      go_wp2_with fail
      go_ret
      exact ⟨rfl, HB7.out⟩
set_option maxRecDepth 100000 in
set_option maxHeartbeats 1600000 in
theorem lawHistNews_any (l : List Ev) (hwf : ∀ e ∈ l, e.Wf) (v : Value) (w : World) (hr : EvRow w l v) :
    Calls Try.prog 5 #[v] w fun x w' => x = .returned (.bool true) ∧ Below w.heap.size w w' := by
  have HRW := hide hr
  have HW := hide hwf
  have hsz := hide (fun W hW => szEventS_any l hwf v W hW)
  obtain ⟨ad, cap, rfl, hc, hmx, hx⟩ := hr
  clear hx hwf
  obtain ⟨rv, HQ⟩ : ∃ rv, Hid (((Pl.histB Pl.evB l && Pl.openB l) && Pl.newsOf l) = rv ∧ ((Pl.pastB Pl.evB l).2 && ((Pl.pastB Pl.evB l).1.news && !(Pl.pastB Pl.evB l).1.over)) = rv) := ⟨_, rfl, Pl.hist_news evB_fit l⟩
  cases rv
  all_goals
    go_enter Try.func5, Try.ntmps5
    go_wp2_with fail
    refine (hsz.out _ HRW.out).mono ?_
    rintro x1 w1 ⟨⟨r, rfl, hr0⟩, hB1⟩
    have HB1 := hide hB1
    have HR0 := hide hr0
    clear hB1 hsz hr0
    by_cases n1 : r < 0
    · go_wp2_with fail
      go_ret
      exact ⟨rfl, HB1.out⟩
    · have hN : l.length ≤ 1048576 := HR0.out (by omega)
      have hto := hide (fun W hW => toEventS_any l hN (.slice ad l.length cap) W hW)
      have hsp := hide (fun v W hW => specHistNews_any l HW.out hN v W hW)
      have him := hide (fun v W hW => implHistNews_any l HW.out hN v W hW)
      have heq := hide (fun va vb W ha hb => eqEventS_any l hN va vb W ha hb)
      have HEQ := hide (HQ.out)
      rw [HEQ.out.1] at hsp
      rw [HEQ.out.2] at him
      go_wp2_with fail
      refine (hto.out _ (HRW.out.later HB1.out)).mono ?_
      rintro x2 w2 ⟨rfl, ht2⟩
      have HR2 := hide (ht2.done hN)
      have HB2 := hide (HB1.out.trans (ht2.2.2.mono HB1.out.size))
      clear ht2
      go_wp2_with fail
      refine (hsp.out _ _ HR2.out).mono ?_
      rintro x3 w3 ⟨rfl, hB3⟩
      have HB3 := hide (HB2.out.trans (hB3.mono HB2.out.size))
      clear hB3 hsp HR2
      go_wp2_with fail
      refine (hto.out _ (HRW.out.later HB3.out)).mono ?_
      rintro x4 w4 ⟨rfl, ht4⟩
      have HR4 := hide (ht4.done hN)
      have HB4 := hide (HB3.out.trans (ht4.2.2.mono HB3.out.size))
      clear ht4
      go_wp2_with fail
      refine (him.out _ _ HR4.out).mono ?_
      rintro x5 w5 ⟨rfl, hB5⟩
      have HR5 := hide (HR4.out.later hB5)
      have HB5 := hide (HB4.out.trans (hB5.mono HB4.out.size))
      clear hB5 him HR4
      go_wp2_with fail
      refine (hto.out _ (HRW.out.later HB5.out)).mono ?_
      rintro x6 w6 ⟨rfl, ht6⟩
      have HR6 := hide (ht6.done hN)
      have HX6 := hide (HR5.out.later ht6.2.2)
      have HB6 := hide (HB5.out.trans (ht6.2.2.mono HB5.out.size))
      clear ht6 HR5
      go_wp2_with fail
      refine (heq.out _ _ _ HX6.out HR6.out).mono ?_
      rintro x7 w7 ⟨rfl, hB7⟩
      have HB7 := hide (HB6.out.trans (hB7.mono HB6.out.size))
      clear hB7
      go_wp2_with fail
      go_ret
      exact ⟨rfl, HB7.out⟩
theorem tasks_eq (l : List Ev) : (if (Pl.pastB Pl.evB l).2 = true then (Pl.pastB Pl.evB l).1.tasks else 0) = (if Pl.histB Pl.evB l = true then ((Pl.tasksOf l : Nat) : Int) else 0) := by
  rw [← (Pl.past_hist evB_fit l).1]
  split
  · rename_i hb; exact Pl.hist_tasks evB_fit l hb
  · rfl
set_option maxRecDepth 100000 in
set_option maxHeartbeats 1600000 in
theorem lawHistTasks_any (l : List Ev) (hwf : ∀ e ∈ l, e.Wf) (v : Value) (w : World) (hr : EvRow w l v) :
    Calls Try.prog 6 #[v] w fun x w' => x = .returned (.bool true) ∧ Below w.heap.size w w' := by
  have HRW := hide hr
  have HW := hide hwf
  have hsz := hide (fun W hW => szEventS_any l hwf v W hW)
  obtain ⟨ad, cap, rfl, hc, hmx, hx⟩ := hr
  clear hx hwf
  obtain ⟨rv, HQ⟩ : ∃ rv, Hid ((if Pl.histB Pl.evB l = true then ((Pl.tasksOf l : Nat) : Int) else 0) = rv ∧ (if (Pl.pastB Pl.evB l).2 = true then (Pl.pastB Pl.evB l).1.tasks else 0) = rv) := ⟨_, rfl, tasks_eq l⟩
  have hne : (rv != rv) = false := by simp
  go_enter Try.func6, Try.ntmps6
  go_wp2_with fail
  refine (hsz.out _ HRW.out).mono ?_
  rintro x1 w1 ⟨⟨r, rfl, hr0⟩, hB1⟩
  have HB1 := hide hB1
  have HR0 := hide hr0
  clear hB1 hsz hr0
  by_cases n1 : r < 0
  · go_wp2_with fail
    go_ret
    exact ⟨rfl, HB1.out⟩
  · have hN : l.length ≤ 1048576 := HR0.out (by omega)
    have hto := hide (fun W hW => toEventS_any l hN (.slice ad l.length cap) W hW)
    have hsp := hide (fun v W hW => specHistTasks_any l HW.out hN v W hW)
    have him := hide (fun v W hW => implHistTasks_any l HW.out hN v W hW)
    have heq := hide (fun va vb W ha hb => eqEventS_any l hN va vb W ha hb)
    have HEQ := hide (HQ.out)
    rw [HEQ.out.1] at hsp
    rw [HEQ.out.2] at him
    go_wp2_with fail
    refine (hto.out _ (HRW.out.later HB1.out)).mono ?_
    rintro x2 w2 ⟨rfl, ht2⟩
    have HR2 := hide (ht2.done hN)
    have HB2 := hide (HB1.out.trans (ht2.2.2.mono HB1.out.size))
    clear ht2
    go_wp2_with fail
    refine (hsp.out _ _ HR2.out).mono ?_
    rintro x3 w3 ⟨rfl, hB3⟩
    have HB3 := hide (HB2.out.trans (hB3.mono HB2.out.size))
    clear hB3 hsp HR2
    go_wp2_with fail
    refine (hto.out _ (HRW.out.later HB3.out)).mono ?_
    rintro x4 w4 ⟨rfl, ht4⟩
    have HR4 := hide (ht4.done hN)
    have HB4 := hide (HB3.out.trans (ht4.2.2.mono HB3.out.size))
    clear ht4
    go_wp2_with fail
    refine (him.out _ _ HR4.out).mono ?_
    rintro x5 w5 ⟨rfl, hB5⟩
    have HR5 := hide (HR4.out.later hB5)
    have HB5 := hide (HB4.out.trans (hB5.mono HB4.out.size))
    clear hB5 him HR4
    go_wp2_with fail
    refine (hto.out _ (HRW.out.later HB5.out)).mono ?_
    rintro x6 w6 ⟨rfl, ht6⟩
    have HR6 := hide (ht6.done hN)
    have HX6 := hide (HR5.out.later ht6.2.2)
    have HB6 := hide (HB5.out.trans (ht6.2.2.mono HB5.out.size))
    clear ht6 HR5
    go_wp2_with fail
    refine (heq.out _ _ _ HX6.out HR6.out).mono ?_
    rintro x7 w7 ⟨rfl, hB7⟩
    have HB7 := hide (HB6.out.trans (hB7.mono HB6.out.size))
    clear hB7
    go_wp2_with fail
    go_ret
    exact ⟨rfl, HB7.out⟩
end Go.Proofs.Ytobeecopkfgplaa
