/- Joined: PlCut EvSm CuO CuS CuA CuB CuH. -/
import Derived.Test.YthimglgjeibaoaaImW
import Derived.Test.YthimglgjeibaoaaJSp
import Derived.Test.YthimglgjeibaoaaOwE
import Derived.Test.YthimglgjeibaoaaJMk
import Derived.Test.YthimglgjeibaoaaImK
import Derived.Test.YthimglgjeibaoaaJImP
/- Plain: where a history is cut, as the program goes and as the specification does; both are one. -/
namespace Go.Proofs.Ythimglgjeibaoaa
set_option linter.unusedVariables false
set_option linter.unusedSimpArgs false
/-- so many tasks are done with all that they asked for -/
def Pl.cutP (n : Int) (q : List Ev) : Prop := n ≤ (Pl.tasksOf q : Int) ∧ Pl.leftOf q ≤ 0
/-- it goes on behind this -/
def Pl.goesB (n : Int) (h : Pl.Past) : Bool := decide (h.tasks < n) || decide (0 < h.due)
def Pl.cutW (n : Int) : Pl.Past → List Ev → Pl.Past
  | h, [] => h
  | h, e :: r => if Pl.goesB n (Pl.pwith Pl.evB h e).1 = true then Pl.cutW n (Pl.pwith Pl.evB h e).1 r else (Pl.pwith Pl.evB h e).1
theorem goes_not {n : Int} {q : List Ev} {h : Pl.Past} (R : Pl.Rel q h) : Pl.goesB n h = true ↔ ¬ Pl.cutP n q := by
  unfold Pl.goesB Pl.cutP
  rw [R.tasks, R.due]
  simp only [Bool.or_eq_true, decide_eq_true_eq]
  omega
theorem cutW_any (n : Int) : ∀ (r p : List Ev) (h : Pl.Past), Pl.Rel p h → (Pl.walkP Pl.evB h r).2 = true →
    ∃ c, c ≤ r.length ∧ (Pl.cutW n h r).events = ((p.length + c : Nat) : Int) ∧ (r ≠ [] → 1 ≤ c) ∧ (∀ j, 1 ≤ j → j < c → ¬ Pl.cutP n (p ++ r.take j)) ∧ (Pl.cutP n (p ++ r.take c) ∨ c = r.length)
  | [], p, h, R, _ => ⟨0, by simp, by simp [Pl.cutW, R.events], by simp, fun j h1 h2 => by omega, Or.inr rfl⟩
  | e :: r, p, h, R, hw => by
    obtain ⟨s1, s2⟩ := Pl.step_rel evB_fit R e
    cases hs : (Pl.pwith Pl.evB h e).2
    · simp [Pl.walkP, hs] at hw
    · have R' := s2 hs
      have hw' : (Pl.walkP Pl.evB (Pl.pwith Pl.evB h e).1 r).2 = true := by simpa [Pl.walkP, hs] using hw
      by_cases hg : Pl.goesB n (Pl.pwith Pl.evB h e).1 = true
      · obtain ⟨c, h1, h2, h3, h4, h5⟩ := cutW_any n r (p ++ [e]) _ R' hw'
        refine ⟨c + 1, by simp; omega, ?_, fun _ => by omega, fun j hj hjc => ?_, ?_⟩
        · rw [Pl.cutW, if_pos hg, h2]; simp; omega
        · by_cases j1 : j = 1
          · subst j1
            simpa using (goes_not R').1 hg
          · obtain ⟨d, rfl⟩ : ∃ d, j = d + 1 := ⟨j - 1, by omega⟩
            simpa using h4 d (by omega) (by omega)
        · rcases h5 with h5 | h5
          · exact Or.inl (by simpa using h5)
          · exact Or.inr (by simp; omega)
      · refine ⟨1, by simp, by rw [Pl.cutW, if_neg hg, R'.events]; simp, fun _ => Nat.le_refl _, fun j h1 h2 => by omega, Or.inl ?_⟩
        have : ¬ ¬ Pl.cutP n (p ++ [e]) := fun hc => hg ((goes_not R').2 hc)
        simpa using Classical.not_not.1 this
/-- how many events are kept -/
def Pl.cutN (n : Int) (l : List Ev) : Nat := (Pl.cutW n Pl.Past.none l).events.toNat
theorem hist_walk {l : List Ev} (h : Pl.histB Pl.evB l = true) : (Pl.walkP Pl.evB Pl.Past.none l).2 = true := by
  have := (Pl.walk_rel evB_fit l l [] Pl.Past.none rfl Pl.Rel.none (Pl.goodTo_zero _ _)).1
  rw [this]
  unfold Pl.histB at h
  simp only [Bool.and_eq_true] at h
  exact h.1
theorem cutN_any {l : List Ev} (h : Pl.histB Pl.evB l = true) (n : Int) : Pl.cutN n l ≤ l.length ∧ (Pl.cutW n Pl.Past.none l).events = (Pl.cutN n l : Int) ∧ (l ≠ [] → 1 ≤ Pl.cutN n l) ∧ (∀ j, 1 ≤ j → j < Pl.cutN n l → ¬ Pl.cutP n (l.take j)) ∧ (Pl.cutP n (l.take (Pl.cutN n l)) ∨ Pl.cutN n l = l.length) := by
  obtain ⟨c, h1, h2, h3, h4, h5⟩ := cutW_any n l [] Pl.Past.none Pl.Rel.none (hist_walk h)
  have hc : Pl.cutN n l = c := by unfold Pl.cutN; rw [h2]; simp
  rw [hc]
  exact ⟨h1, by rw [h2]; simp, h3, by simpa using h4, by simpa using h5⟩
theorem tasks_mono (l : List Ev) : ∀ (i j : Nat), i ≤ j → Pl.tasksOf (l.take i) ≤ Pl.tasksOf (l.take j) := fun i j hij => by
  unfold Pl.tasksOf
  have : l.take i = (l.take j).take i := by rw [List.take_take]; congr 1; omega
  rw [this]
  exact List.Sublist.length_le (List.Sublist.filter _ (List.take_sublist _ _))
theorem tasks_take (l : List Ev) (i : Nat) (e : Ev) (h : l[i]? = some e) : Pl.tasksOf (l.take (i + 1)) = if e.k = 2 then Pl.tasksOf (l.take i) + 1 else Pl.tasksOf (l.take i) := by
  rw [List.take_add_one, h]
  exact Pl.tasksOf_snoc _ _
theorem hist_next {l : List Ev} (h : Pl.histB Pl.evB l = true) {i : Nat} {e : Ev} (he : l[i]? = some e) : Pl.evB e = true ∧ Pl.nextB (l.take i) e = true := by
  have hlt := (List.getElem?_eq_some_iff.1 he).1
  unfold Pl.histB at h
  simp only [Bool.and_eq_true] at h
  have := Pl.goodTo_mono Pl.evB l (show i + 1 ≤ l.length by omega) h.1
  rw [Pl.goodTo_succ Pl.evB l i e he] at this
  simp only [Bool.and_eq_true] at this
  exact this.2
theorem hist_left {l : List Ev} (h : Pl.histB Pl.evB l = true) : Pl.leftOf l = 0 ∧ l.length ≤ 200 ∧ 1 ≤ l.length := by
  unfold Pl.histB at h
  simp only [Bool.and_eq_true, decide_eq_true_eq, beq_iff_eq] at h
  obtain ⟨_, ⟨h1, h2⟩, h3⟩ := h
  exact ⟨h3, by omega, by omega⟩
theorem next_left {q : List Ev} {e : Ev} (hq : q ≠ []) (h : Pl.nextB q e = true) (hl : 0 < Pl.leftOf q) : e.k = 3 := by
  unfold Pl.nextB at h
  rw [if_neg hq] at h
  by_cases hb : Pl.openB q = false ∨ e.k = 1 ∨ decide (0 < Pl.leftOf q) ≠ (e.k == 3)
  · rw [if_pos hb] at h; cases h
  · have hd : decide (0 < Pl.leftOf q) = (e.k == 3) := Classical.byContradiction fun hc => hb (Or.inr (Or.inr hc))
    rw [decide_eq_true hl] at hd
    simpa using hd.symm
/-- behind a task that asks for m, so many are left -/
theorem left_down {l : List Ev} (h : Pl.histB Pl.evB l = true) {i : Nat} {e : Ev} (he : l[i]? = some e) (h2 : e.k = 2) (m : Nat) (hm : e.many = (m : Int)) :
    ∀ d, d ≤ m → i + 1 + d ≤ l.length → Pl.leftOf (l.take (i + 1 + d)) = ((m - d : Nat) : Int)
  | 0, _, _ => by
    rw [show i + 1 + 0 = i + 1 by omega, Pl.leftOf_take l i e he]
    simp [Pl.leftStep, h2, hm]
  | d + 1, hd, hl => by
    have ih := left_down h he h2 m hm d (by omega) (by omega)
    obtain ⟨f, hf⟩ : ∃ f, l[i + 1 + d]? = some f := ⟨_, List.getElem?_eq_getElem (by omega)⟩
    have h3 := next_left (by intro hn; have := congrArg List.length hn; rw [List.length_take, List.length_nil] at this; omega) (hist_next h hf).2 (by rw [ih]; omega)
    rw [show i + 1 + (d + 1) = (i + 1 + d) + 1 by omega, Pl.leftOf_take l _ f hf, ih]
    have : ¬ f.k = 2 := by omega
    simp only [Pl.leftStep, if_neg this, if_pos h3]
    omega
theorem cut_task {l : List Ev} (h : Pl.histB Pl.evB l = true) {n : Int} {i : Nat} {e : Ev} (he : l[i]? = some e) (h2 : e.k = 2) (hn : (Pl.tasksOf (l.take i) : Int) + 1 = n) :
    0 ≤ e.many ∧ (i : Int) + 1 + e.many = (Pl.cutN n l : Int) ∧ Pl.cutN n l ≤ l.length := by
  have hlt := (List.getElem?_eq_some_iff.1 he).1
  have hmany := (evB_fit e (hist_next h he).1).1 h2
  obtain ⟨m, hm⟩ : ∃ m : Nat, e.many = (m : Int) := ⟨e.many.toNat, by omega⟩
  obtain ⟨c1, c2, c3, c4, c5⟩ := cutN_any h n
  have hne : l ≠ [] := by intro hq; subst hq; simp at hlt
  have hL := hist_left h
  have hlen : i + 1 + m ≤ l.length := by
    refine Classical.byContradiction fun hc => ?_
    have := left_down h he h2 m hm (l.length - (i + 1)) (by omega) (by omega)
    rw [show i + 1 + (l.length - (i + 1)) = l.length by omega, List.take_length, hL.1] at this
    omega
  have ht : Pl.tasksOf (l.take (i + 1)) = Pl.tasksOf (l.take i) + 1 := by rw [tasks_take l i e he, if_pos h2]
  have hP : Pl.cutP n (l.take (i + 1 + m)) := by
    refine ⟨?_, ?_⟩
    · have := tasks_mono l (i + 1) (i + 1 + m) (by omega)
      omega
    · rw [left_down h he h2 m hm m (Nat.le_refl _) hlen]; simp
  have hN : ∀ j, 1 ≤ j → j < i + 1 + m → ¬ Pl.cutP n (l.take j) := fun j hj hjl hp => by
    by_cases hji : j ≤ i
    · have := tasks_mono l j i hji
      have := hp.1
      omega
    · have hd := left_down h he h2 m hm (j - (i + 1)) (by omega) (by omega)
      rw [show i + 1 + (j - (i + 1)) = j by omega] at hd
      have := hp.2
      omega
  have hle : Pl.cutN n l ≤ i + 1 + m := by
    refine Classical.byContradiction fun hc => ?_
    exact c4 (i + 1 + m) (by omega) (by omega) hP
  have hge : i + 1 + m ≤ Pl.cutN n l := by
    rcases c5 with c5 | c5
    · refine Classical.byContradiction fun hc => ?_
      exact hN _ (c3 hne) (by omega) c5
    · omega
  exact ⟨by omega, by omega, c1⟩
theorem cut_none {l : List Ev} (h : Pl.histB Pl.evB l = true) {n : Int} (hn : (Pl.tasksOf l : Int) < n) : Pl.cutN n l = l.length := by
  obtain ⟨c1, c2, c3, c4, c5⟩ := cutN_any h n
  rcases c5 with c5 | c5
  · have := tasks_mono l (Pl.cutN n l) l.length c1
    rw [List.take_length] at this
    have := c5.1
    omega
  · exact c5
end Go.Proofs.Ythimglgjeibaoaa

/- Events that fit are small: their texts are no longer than anything that is ever copied. -/
namespace Go.Proofs.Ythimglgjeibaoaa
open Go.RowKit
set_option linter.unusedVariables false
set_option linter.unusedSimpArgs false
theorem empty_size {t : ByteArray} (h : t.toList.isEmpty = true) : t.size ≤ 2000000 := by
  have h1 : t.toList = [] := by simpa using h
  rw [ByteArray.toList_eq] at h1
  have h2 : t.data.toList.length = t.size := by simp
  rw [h1] at h2
  simp at h2
  omega
theorem okB_size {k n : Int} {t : ByteArray} (h : Pl.okB k n t = true) : t.size ≤ 2000000 := by
  unfold Pl.okB at h
  split at h
  · simp only [Bool.and_eq_true] at h; exact empty_size h.2
  · split at h
    · simp only [Bool.and_eq_true] at h; exact empty_size h.2
    · split at h
      · simp only [Bool.and_eq_true, Pl.textB] at h
        have := h.2
        simp at this
        omega
      · cases h
theorem noVal_size {k n : Int} {t : ByteArray} (h : Pl.noVal k n t = true) : t.size ≤ 2000000 := by
  simp only [Pl.noVal, Bool.and_eq_true] at h
  exact empty_size h.2.2
theorem nameB_size {s : ByteArray} (h : Pl.nameB s = true) : s.size ≤ 2000000 := by
  simp only [Pl.nameB, Bool.and_eq_true, decide_eq_true_eq] at h
  omega
theorem cmdB_size {k : Int} {nm : ByteArray} {vk vn : Int} {vt : ByteArray} (h : Pl.cmdB k nm vk vn vt = true) : nm.size ≤ 2000000 ∧ vt.size ≤ 2000000 := by
  unfold Pl.cmdB at h
  split at h
  · simp only [Bool.and_eq_true] at h; exact ⟨nameB_size h.1, okB_size h.2⟩
  · split at h
    · simp only [Bool.and_eq_true] at h; exact ⟨empty_size h.1, okB_size h.2.2.2⟩
    · split at h
      · simp only [Bool.and_eq_true] at h; exact ⟨empty_size h.1, okB_size h.2⟩
      · cases h
theorem cameB_size {k p : Int} {nm : ByteArray} {o : Bool} {vk vn : Int} {vt : ByteArray} (h : Pl.cameB k p nm o vk vn vt = true) : nm.size ≤ 2000000 ∧ vt.size ≤ 2000000 := by
  unfold Pl.cameB at h
  split at h
  · simp only [Bool.and_eq_true] at h; exact ⟨empty_size h.2.1, okB_size h.2.2.1⟩
  · split at h
    · simp only [Bool.and_eq_true] at h; exact ⟨empty_size h.2.1, noVal_size h.2.2.2⟩
    · split at h
      · simp only [Bool.and_eq_true] at h; exact ⟨nameB_size h.2.1, okB_size h.2.2.2⟩
      · cases h
theorem noCmd_size {k : Int} {nm : ByteArray} {vk vn : Int} {vt : ByteArray} (h : Pl.noCmd k nm vk vn vt = true) : nm.size ≤ 2000000 ∧ vt.size ≤ 2000000 := by
  simp only [Pl.noCmd, Bool.and_eq_true] at h
  exact ⟨empty_size h.2.1, noVal_size h.2.2⟩
theorem noCame_size {k p : Int} {nm : ByteArray} {o : Bool} {vk vn : Int} {vt : ByteArray} (h : Pl.noCame k p nm o vk vn vt = true) : nm.size ≤ 2000000 ∧ vt.size ≤ 2000000 := by
  simp only [Pl.noCame, Bool.and_eq_true] at h
  exact ⟨empty_size h.2.2.1, noVal_size h.2.2.2.2⟩
theorem evB_small {e : Ev} (h : Pl.evB e = true) : e.Small := by
  unfold Pl.evB at h
  split at h
  · simp only [Bool.and_eq_true] at h
    exact ⟨okB_size h.1, (noCmd_size h.2.2.1).1, (noCmd_size h.2.2.1).2, (noCame_size h.2.2.2).1, (noCame_size h.2.2.2).2⟩
  · split at h
    · simp only [Bool.and_eq_true] at h
      exact ⟨noVal_size h.1, (noCmd_size h.2.2.1).1, (noCmd_size h.2.2.1).2, (noCame_size h.2.2.2).1, (noCame_size h.2.2.2).2⟩
    · split at h
      · simp only [Bool.and_eq_true] at h
        exact ⟨noVal_size h.1, (cmdB_size h.2.2.1).1, (cmdB_size h.2.2.1).2, (noCame_size h.2.2.2).1, (noCame_size h.2.2.2).2⟩
      · split at h
        · simp only [Bool.and_eq_true] at h
          exact ⟨noVal_size h.1, (noCmd_size h.2.2.1).1, (noCmd_size h.2.2.1).2, (cameB_size h.2.2.2).1, (cameB_size h.2.2.2).2⟩
        · split at h
          · simp only [Bool.and_eq_true] at h
            exact ⟨noVal_size h.1, (noCmd_size h.2.2.1).1, (noCmd_size h.2.2.1).2, (noCame_size h.2.2.2).1, (noCame_size h.2.2.2).2⟩
          · cases h
theorem hist_small {l : List Ev} (h : Pl.histB Pl.evB l = true) : ∀ e ∈ l, e.Small := by
  intro e he
  obtain ⟨j, hj⟩ := List.mem_iff_getElem?.1 he
  have hlt := (List.getElem?_eq_some_iff.1 hj).1
  unfold Pl.histB at h
  simp only [Bool.and_eq_true] at h
  have := Pl.goodTo_mono Pl.evB l (show j + 1 ≤ l.length by omega) h.1
  rw [Pl.goodTo_succ Pl.evB l j e hj] at this
  simp only [Bool.and_eq_true] at this
  exact evB_small this.2.1
end Go.Proofs.Ythimglgjeibaoaa

/- Copies of a row of events, and rows of events that are owned. -/
namespace Go.Proofs.Ythimglgjeibaoaa
open Go.RowKit
set_option linter.unusedVariables false
set_option linter.unusedSimpArgs false
theorem flat_inv : ∀ (L : List Ev) (j : Nat) (u : Value), (L.flatMap evL)[j]? = some u → ∃ i e s, L[i]? = some e ∧ j = i * 17 + s ∧ (evL e)[s]? = some u
  | [], j, u, h => by simp at h
  | a :: r, j, u, h => by
    rw [List.flatMap_cons] at h
    by_cases hj : j < 17
    · rw [List.getElem?_append_left (by simpa using hj)] at h
      exact ⟨0, a, j, rfl, by omega, h⟩
    · rw [List.getElem?_append_right (by simp; omega)] at h
      obtain ⟨i, e, s, h1, h2, h3⟩ := flat_inv r _ u h
      refine ⟨i + 1, e, s, by simpa using h1, ?_, h3⟩
      have h4 : (evL a).length = 17 := rfl
      omega
theorem EvRow.of_own {w : World} {base : Nat} {a : Option Addr} {n c : Nat} {L : List Ev} (h : w.ownsRow base 46 17 (.slice a n c) L.length (L.flatMap evL)) : EvRow w L (.slice a n c) := by
  obtain ⟨hn, hc, hm⟩ := own_bound h
  refine ⟨a, c, by rw [hn], by omega, hm, fun hl => ?_⟩
  obtain ⟨g, ha, _, hg, _⟩ := own_cells (f := evL) (fun _ => rfl) h (List.getElem?_eq_getElem hl)
  refine ⟨g, 0, ha, hg, fun i e he => ?_⟩
  obtain ⟨g', ha', _, _, hs⟩ := own_cells (f := evL) (fun _ => rfl) h he
  have hgg : g' = g := by rw [ha] at ha'; injection ha' with h1; injection h1 with h2; exact h2.symm
  subst hgg
  intro j u hu
  rw [Nat.zero_add]
  exact hs j u hu
theorem evs_len : ∀ (B : List Ev), (B.flatMap evL).length = B.length * 17
  | [] => rfl
  | a :: r => by
    have ih := evs_len r
    have h4 : (evL a).length = 17 := rfl
    rw [List.flatMap_cons, List.length_append, ih, h4, List.length_cons]
    omega
theorem app_evs {W : World} {base : Nat} {v : Value} {A : List Ev} (B : List Ev) (hv : W.ownsRow base 46 17 v A.length (A.flatMap evL)) (ad : Addr) (c : Nat) (hu : ∀ j u, (B.flatMap evL)[j]? = some u → W.cell? (ad.add j) = some u) (hn : A.length + B.length ≤ 4194304) (hb : base ≤ W.heap.size) :
    ∃ v' w2, (Builtin.append_ #[24, 24] 24 #[v, .slice (some ad) B.length c]).run Try.prog W = .ok v' w2 ∧ w2.ownsRow base 46 17 v' (A ++ B).length ((A ++ B).flatMap evL) ∧ W.grownBy w2 v.ownBlock := by
  obtain ⟨i0, hi, hz0, hz1, hz2⟩ := info_parts infoEv3
  obtain ⟨v', w2, hrun, hown, hgrow, _, _⟩ := run_append_own_at (P := Try.prog) W base 24 24 46 i0 _ 17 _ Try.underlying24 hi hz0 hz1 hz2 rfl (by decide) v A.length (A.flatMap evL) hv ad B.length c (B.flatMap evL) (evs_len B) hu (fun u hu => by
    obtain ⟨e, _, he⟩ := List.mem_flatMap.1 hu
    simp only [List.mem_cons, List.not_mem_nil, or_false] at he
    rcases he with rfl | rfl | rfl | rfl | rfl | rfl | rfl | rfl | rfl | rfl | rfl | rfl | rfl | rfl | rfl | rfl | rfl <;> rfl) (by unfold maxLen; omega) (by omega) hb
  refine ⟨v', w2, hrun, ?_, hgrow⟩
  simpa [List.flatMap_append] using hown
theorem wp_app_evs {ops : Array Oper} {rest : List Oper} {o : Oper} {a : Act} {W : World} {Q : Exit → Act → World → Prop} (hgd : o.guard = none) (s x : Operand)
    (ho : o.op = .call { callee := .builtin .append, args := #[s, x], argTypes := #[24, 24] }) (hty : o.type = 24) (base : Nat) (A B : List Ev) (v : Value) (ad : Addr) (n c : Nat) (hnB : n = B.length) (hs : a.eval s = v) (hx : a.eval x = .slice (some ad) n c)
    (hv : W.ownsRow base 46 17 v A.length (A.flatMap evL)) (hu : ∀ j u, (B.flatMap evL)[j]? = some u → W.cell? (ad.add j) = some u) (hn : A.length + B.length ≤ 4194304) (hb : base ≤ W.heap.size)
    (h : ∀ v' w2, Hid (w2.ownsRow base 46 17 v' (A ++ B).length ((A ++ B).flatMap evL)) → Hid (W.grownBy w2 v.ownBlock) → wpList Try.prog ops Q rest (a.put o.dst v') w2) : wpList Try.prog ops Q (o :: rest) a W := by
  subst hnB
  refine wpList_plain hgd fun K hK => ?_
  obtain ⟨v', w2, hrun, h1, h2⟩ := app_evs B hv ad c hu hn hb
  unfold Oper.wp
  simp [execOp, ho, resolve, invoke, builtin, hs, hx, hty, hrun, Result.andThen]
  exact hK _ _ (h _ _ h1 h2)
theorem cells_one (V : World) (e : Ev) (T : TypeId) : ∀ j u, ([e].flatMap evL)[j]? = some u → (V.alloc (.cells (evL e).toArray T)).cell? ((⟨V.heap.size, 0, none⟩ : Addr).add j) = some u := fun j u hu => cells_top V (evL e) T j u (by simpa using hu)
set_option maxRecDepth 100000 in
set_option maxHeartbeats 3200000 in
theorem ownListEv_any (l : List Ev) (hsm : ∀ e ∈ l, e.Small) (hN : l.length ≤ 1048576) (v : Value) (w : World) (hr : EvRow w l v) :
    Calls Try.prog 19 #[v, .func (.func 20) #[] #[]] w fun x w' => ∃ v', x = .returned v' ∧ w'.ownsRow w.heap.size 46 17 v' l.length (l.flatMap evL) ∧ Below w.heap.size w w' := by
  obtain ⟨ad, cap, rfl, hc, hmx, hx⟩ := hr
  unfold maxLen at hmx
  have HX := hide hx
  have HSM := hide hsm
  clear hx hsm
  go_enter Try.func19, Try.ntmps19
  go_wp2_with fail
  go_loopw [5, 10] (fun kv iv wr => ∃ i : Nat, i ≤ l.length ∧ iv = .int .i64 i ∧ Hid (wr.ownsRow w.heap.size 46 17 kv (l.take i).length ((l.take i).flatMap evL)) ∧ Hid (Below w.heap.size w wr)) (fun _ iv _ => l.length - (intOf iv).toNat)
  case atStart => exact ⟨0, by omega, rfl, ⟨by simp, .inl ⟨rfl, by simp⟩⟩, Below.refl _ _⟩
  case round =>
    obtain ⟨i, hi, rfl, HO, HB⟩ := hrel
    obtain ⟨av, cv, hav⟩ := ownsRow_form HO.out
    subst hav
    by_cases hlt : i < l.length
    · obtain ⟨g, off, rfl, hg, hs⟩ := HX.out (by omega)
      obtain ⟨e, he⟩ : ∃ e, l[i]? = some e := ⟨_, List.getElem?_eq_getElem hlt⟩
      have HAT := hide ((hs i e he).later HB.out hg)
      have hcall := hide (fun W => ownEvent_any e (HSM.out e (List.mem_of_getElem? he)) W)
      have HT : Hid (l.take (i + 1) = l.take i ++ [e]) := by show _ = _; rw [List.take_add_one, he]; rfl
      have HAN : Hid ((l.take i).length + [e].length ≤ 4194304) := by show _ ≤ _; simp [List.length_take]; omega
      generalize l.take i = A at *
      clear hs he
      have hii : (i : Int) < (l.length : Int) := by omega
      go_wp2_with (first
        | (with_reducible show wpList _ _ _ (Oper.mk _ (Op.load 46 (.tmp 12)) _ _ _ _ :: _) _ _; refine we_mid rfl (.tmp 12) rfl g (off + i * 17) rfl e HAT.out ?_)
        | (with_reducible show wpList _ _ _ (Oper.mk _ (Op.store 46 _ _) _ _ _ _ :: _) _ _; refine we_store rfl (.tmp 7) (.tmp 13) rfl wr.heap.size rfl _ rfl rfl rfl (evL_ok e) ?_)
        | (with_reducible show wpList _ _ _ (Oper.mk _ (Op.load 46 (.tmp 7)) _ _ _ _ :: _) _ _; refine we_load rfl (.tmp 7) rfl wr.heap.size rfl _ (top1 _ _) (evL_ok e) ?_))
      refine (hcall.out _).mono ?_
      rintro x1 X1 ⟨rfl, hB1⟩
      have hB0 : Below w.heap.size w X1 := (HB.out.alloc HB.out.size _).trans (hB1.mono (HB.out.alloc HB.out.size _).size)
      have HOX : X1.ownsRow w.heap.size 46 17 (.slice av A.length cv) A.length (A.flatMap evL) := ownsRow_later (ownsRow_later HO.out ((Below.refl _ _).alloc (Nat.le_refl _) _)) hB1
      have HOW : Hid (∀ C, (X1.alloc (.cells C 46)).ownsRow w.heap.size 46 17 (.slice av A.length cv) A.length (A.flatMap evL)) := fun C => ownsRow_later HOX ((Below.refl _ _).alloc (Nat.le_refl _) _)
      have HBS : Hid (∀ C, w.heap.size ≤ (X1.alloc (.cells C 46)).heap.size) := fun C => alloc_le hB0.size
      have HRE : Hid (∀ C w2, (X1.alloc (.cells C 46)).grownBy w2 (Value.slice av A.length cv).ownBlock → Below w.heap.size w w2) := fun C w2 hgr => (hB0.alloc hB0.size _).grown hgr (HBS.out C) (fun k hk => by have := (HO.out.lt k hk).1; omega)
      clear hB1 hB0 HOX hcall HAT HB HX
      go_wp2_with (first
        | (with_reducible show wpList _ _ _ (Oper.mk _ (Op.call (Call.mk (.builtin .append) _ _)) _ _ _ _ :: _) _ _; refine wp_app_evs rfl (.tmp 14) (.tmp 18) rfl rfl w.heap.size A [e] _ ⟨X1.heap.size, 0, none⟩ 1 1 rfl rfl rfl (HOW.out _) (cells_one _ _ _) HAN.out (HBS.out _) ?_; intro v2 w2 hv2 hg2)
        | fail)
      go_roundw
      case rel => exact ⟨i + 1, by omega, by go_num, by rw [HT.out]; exact hv2, HRE.out _ w2 hg2.out⟩
      case measure => simp [intOf]; omega
    · have hie : i = l.length := by omega
      have HE : Hid (l.take i = l) := by show _ = _; rw [hie, List.take_length]
      have HE2 : Hid ((l.take i).length = l.length) := by show _ = _; rw [HE.out]
      clear hie
      go_wp2_with fail
      go_ret
      exact ⟨_, rfl, by rw [HE.out] at HO; rw [HE.out]; exact HO.out, HB.out⟩
end Go.Proofs.Ythimglgjeibaoaa

/- A history up to the end of so many tasks, as the specification has it. -/
namespace Go.Proofs.Ythimglgjeibaoaa
open Go.RowKit
set_option linter.unusedVariables false
set_option linter.unusedSimpArgs false
set_option maxRecDepth 100000 in
set_option maxHeartbeats 3200000 in
theorem l5CutAt_any (l : List Ev) (hH : Pl.histB Pl.evB l = true) (hN : l.length ≤ 1048576) (t : Int) (ht : 1 ≤ t) (ht2 : t ≤ 9223372036854775807) (ad : Option Addr) (cap : Nat) (w : World) (hr : EvRow w l (.slice ad l.length cap)) :
    Calls Try.prog 13 #[.slice ad l.length cap, .int .i64 t] w fun x w' => x = .returned (.slice ad (Pl.cutN t l) cap) ∧ w' = w := by
  obtain ⟨ad', cap', hva, hc, hmx, hx⟩ := hr
  obtain ⟨rfl, rfl⟩ : ad = ad' ∧ cap = cap' := by injection hva with a b c; exact ⟨a, c⟩
  unfold maxLen at hmx
  have HX := hide hx
  have HH := hide hH
  clear hx hH hva
  go_enter Try.func13, Try.ntmps13
  go_wp2_with fail
  go_loopw [1, 5] (fun tv iv wr => ∃ (i : Nat) (z : Int), i ≤ l.length ∧ tv = .int .i64 z ∧ iv = .int .i64 i ∧ Hid (z = t - (Pl.tasksOf (l.take i) : Int)) ∧ 1 ≤ z ∧ z ≤ 9223372036854775807 ∧ wr = w) (fun _ iv _ => l.length - (intOf iv).toNat)
  case atStart => exact ⟨0, t, by omega, rfl, rfl, hide (by simp [Pl.tasksOf]), ht, ht2, rfl⟩
  case round =>
    obtain ⟨i, z, hi, rfl, rfl, HZ, hz0, hz1, rfl⟩ := hrel
    by_cases hlt : i < l.length
    · obtain ⟨g, off, rfl, hg, hs⟩ := HX.out (by omega)
      obtain ⟨e, he⟩ : ∃ e, l[i]? = some e := ⟨_, List.getElem?_eq_getElem hlt⟩
      obtain ⟨d0, _, _, _, d4, _, _, _, _, _, _, _, _, _, _, _, _⟩ := (hs i e he).cells
      have hii : (i : Int) < (l.length : Int) := by omega
      by_cases k2 : e.k = 2
      · have q2 : (e.k == 2) = true := by simp [k2]
        by_cases hz : z = 1
        · subst hz
          obtain ⟨m0, m1, m2⟩ := cut_task HH.out he k2 (n := t) (by have := HZ.out; omega)
          obtain ⟨m, hm⟩ : ∃ m : Nat, e.many = (m : Int) := ⟨e.many.toNat, by omega⟩
          rw [hm] at d4
          have hcn : Pl.cutN t l = i + 1 + m := by omega
          have HC := hide hcn
          have h3 : i + 1 + m ≤ l.length := by omega
          clear hs he m0 m1 m2 k2 hm hcn HZ
          go_wp2_with fail
          go_ret
          exact ⟨by rw [HC.out]; first | rfl | simp | (congr 1; omega), rfl⟩
        · have hz2 : ((z - 1) == 0) = false := by simp; omega
          have HT : Hid (z - 1 = t - (Pl.tasksOf (l.take (i + 1)) : Int)) := by show _ = _; rw [tasks_take l i e he, if_pos k2]; have := HZ.out; omega
          clear hs he k2 HZ
          go_wp2_with fail
          go_roundw
          case rel => exact ⟨i + 1, z - 1, by omega, by go_num, by go_num, HT, by omega, by omega, trivial⟩
          case measure => simp [intOf]; omega
      · have q2 : (e.k == 2) = false := by simp [k2]
        have hz2 : (z == 0) = false := by simp; omega
        have HT : Hid (z = t - (Pl.tasksOf (l.take (i + 1)) : Int)) := by show _ = _; rw [tasks_take l i e he, if_neg k2]; exact HZ.out
        clear hs he k2 HZ
        go_wp2_with fail
        go_roundw
        case rel => exact ⟨i + 1, z, by omega, by go_num, by go_num, HT, hz0, hz1, trivial⟩
        case measure => simp [intOf]; omega
    · have hie : i = l.length := by omega
      have HC : Hid (Pl.cutN t l = l.length) := by
        have := HZ.out
        rw [hie, List.take_length] at this
        exact cut_none HH.out (by omega)
      clear hie HZ
      go_wp2_with fail
      go_ret
      exact ⟨by rw [HC.out]; rfl, rfl⟩
/-- what is kept of events -/
def Pl.histCut (t : Int) (l : List Ev) : List Ev := if Pl.histB Pl.evB l = true ∧ 1 ≤ t then l.take (Pl.cutN t l) else []
theorem cut_len {l : List Ev} (h : Pl.histB Pl.evB l = true) (t : Int) : (l.take (Pl.cutN t l)).length = Pl.cutN t l := by
  have := (cutN_any h t).1
  rw [List.length_take]; omega
theorem row_cells {w : World} {L : List Ev} {a : Addr} {n c : Nat} (h : EvRow w L (.slice (some a) n c)) : ∀ j u, (L.flatMap evL)[j]? = some u → w.cell? (a.add j) = some u := fun j u hu => by
  obtain ⟨i, e, s, h1, h2, h3⟩ := flat_inv L j u hu
  obtain ⟨ad, cap, hv, _, _, hx⟩ := h
  injection hv with hv1 hv2 hv3
  obtain ⟨g, off, ha, hg, hs⟩ := hx (by have := (List.getElem?_eq_some_iff.1 h1).1; omega)
  subst hv1
  injection ha with ha
  subst ha
  have hadd : (⟨g, off, none⟩ : Addr).add j = ⟨g, off + j, none⟩ := by unfold Addr.add; split <;> simp_all
  rw [hadd, show off + j = off + i * 17 + s by omega]
  exact hs i e h1 s u h3
set_option maxRecDepth 100000 in
set_option maxHeartbeats 1600000 in
theorem specHistCut_any (l : List Ev) (hwf : ∀ e ∈ l, e.Wf) (hN : l.length ≤ 1048576) (t : Int) (ht2 : t ≤ 9223372036854775807) (v : Value) (w : World) (hr : EvRow w l v) :
    Calls Try.prog 5 #[v, .int .i64 t] w fun x w' => ∃ v', x = .returned v' ∧ w'.ownsRow w.heap.size 46 17 v' (Pl.histCut t l).length ((Pl.histCut t l).flatMap evL) ∧ Below w.heap.size w w' := by
  have HRW := hide hr
  have hok := hide (specHistOk_any l hwf hN v w hr)
  obtain ⟨ad, cap, rfl, hc, hmx, hx⟩ := hr
  clear hx
  cases hh : Pl.histB Pl.evB l
  · rw [hh] at hok
    have HE : Hid (Pl.histCut t l = []) := by show _ = _; unfold Pl.histCut; rw [hh]; simp
    rw [HE.out]
    go_enter Try.func5, Try.ntmps5
    go_wp2_with fail
    refine hok.out.mono ?_
    rintro x1 X1 ⟨rfl, hB1⟩
    have HB1 := hide hB1
    clear hB1 hok
    go_wp2_with fail
    go_ret
    exact ⟨_, rfl, ownsRow_base (own_start _ _ _ (by decide)) HB1.out.size, HB1.out.alloc HB1.out.size _⟩
  · rw [hh] at hok
    by_cases ht : 1 ≤ t
    · have hne : 1 ≤ l.length := (hist_left hh).2.2
      obtain ⟨ad0, rfl⟩ : ∃ a0, ad = some a0 := by
        obtain ⟨_, _, hv, _, _, hx⟩ := HRW.out
        injection hv with hv1 hv2 hv3
        obtain ⟨g, off, ha, _⟩ := hx (by omega)
        exact ⟨_, by rw [hv1, ha]⟩
      have hcut := hide (fun W hW => l5CutAt_any l hh hN t ht ht2 (some ad0) cap W hW)
      have HL := hide (cut_len hh t)
      have HLe := hide (cutN_any hh t).1
      have HE : Hid (Pl.histCut t l = l.take (Pl.cutN t l)) := by show _ = _; unfold Pl.histCut; rw [if_pos ⟨hh, ht⟩]
      rw [HE.out]
      have hlt1 : ¬ t < 1 := by omega
      clear HE
      go_enter Try.func5, Try.ntmps5
      go_wp2_with fail
      refine hok.out.mono ?_
      rintro x1 X1 ⟨rfl, hB1⟩
      have HB1 := hide hB1
      have HR1 := hide (HRW.out.later hB1)
      clear hB1 hok
      go_wp2_with fail
      refine (hcut.out _ (HR1.out.later ((Below.refl _ _).alloc (Nat.le_refl _) _))).mono ?_
      rintro x2 X2 ⟨rfl, rfl⟩
      have HR2 := hide ((HR1.out.later ((Below.refl _ _).alloc (Nat.le_refl _) (.cells #[] 46))).take HLe.out)
      have HCE := hide (row_cells HR2.out)
      have HOW := hide (own_start X1 46 17 (by decide))
      have HOW2 : Hid ((X1.alloc (.cells #[] 46)).ownsRow X1.heap.size 46 17 (.slice (some ⟨X1.heap.size, 0, none⟩) 0 0) ([] : List Ev).length (([] : List Ev).flatMap evL)) := HOW
      have HAN : Hid (([] : List Ev).length + (l.take (Pl.cutN t l)).length ≤ 4194304) := by show _ ≤ _; rw [HL.out]; have := HLe.out; simp; omega
      have HNB := hide HL.out.symm
      clear HOW
      generalize hq : (Value.slice (some ⟨X1.heap.size, 0, none⟩) 0 0) = vq at *
      have HQ := hide hq
      clear hq
      generalize hL0 : l.take (Pl.cutN t l) = L0 at *
      have HL0 := hide hL0
      clear hL0
      dsimp only
      rename_i hK0
      refine hK0 _ _ ?_
      refine wp_app_evs rfl (.tmp 13) (.tmp 16) rfl rfl X1.heap.size [] L0 _ ad0 (Pl.cutN t l) cap HNB.out rfl rfl HOW2.out HCE.out HAN.out (alloc_le (Nat.le_refl _)) ?_
      intro v2 w2 hv2 hg2
      have hv3 : w2.ownsRow X1.heap.size 46 17 v2 L0.length (L0.flatMap evL) := hv2.out
      clear hv2
      have HV3 := hide (ownsRow_base hv3 HB1.out.size)
      obtain ⟨a2, c2, hav2⟩ := ownsRow_form hv3
      subst hav2
      clear hv3
      go_wp2_with fail
      go_ret
      exact ⟨_, rfl, by rw [show l.take (Pl.cutN t l) = L0 from HL0.out]; exact HV3.out, (HB1.out.alloc HB1.out.size _).grown hg2.out (alloc_le HB1.out.size) (fun k hk => by have hk' : k = X1.heap.size := (by rw [show _ = vq from rfl, ← HQ.out] at hk; injection hk with hk; exact hk.symm); have := HB1.out.size; omega)⟩
    · have HE : Hid (Pl.histCut t l = []) := by show _ = _; unfold Pl.histCut; rw [if_neg (fun hc => ht hc.2)]
      rw [HE.out]
      have hlt1 : t < 1 := by omega
      go_enter Try.func5, Try.ntmps5
      go_wp2_with fail
      refine hok.out.mono ?_
      rintro x1 X1 ⟨rfl, hB1⟩
      have HB1 := hide hB1
      clear hB1 hok
      go_wp2_with fail
      go_ret
      exact ⟨_, rfl, ownsRow_base (own_start _ _ _ (by decide)) HB1.out.size, HB1.out.alloc HB1.out.size _⟩
end Go.Proofs.Ythimglgjeibaoaa

/- The program's own step on the way to where a history is cut: what it knows with one more event, and whether it goes on. -/
namespace Go.Proofs.Ythimglgjeibaoaa
open Go.RowKit
set_option linter.unusedVariables false
set_option linter.unusedSimpArgs false
set_option maxRecDepth 100000 in
set_option maxHeartbeats 3200000 in
theorem cloCut_any (h : Pl.Past) {n : Nat} (I : Inv n h) (hn : n ≤ 1000000) (e : Ev) (hw : e.Wf) (hz' : (Pl.pwith Pl.evB h e).1.opn.length = 40) (t : Int) (gt : Nat) (w : World) (hgt : gt < w.heap.size) (ct : w.cell? ⟨gt, 0, none⟩ = some (.int .i64 t)) :
    Calls Try.prog 17 #[pastV h, evV e, .pointer (some ⟨gt, 0, none⟩)] w fun x w' => x = .returned (.tuple #[pastV (Pl.pwith Pl.evB h e).1, .bool (Pl.goesB t (Pl.pwith Pl.evB h e).1)]) ∧ Below w.heap.size w w' := by
  have hcall := hide (with_any h I hn e hw)
  unfold pastV at hcall ⊢
  have hok := hide (pastC_ok h I.size)
  have hok' := hide (pastC_ok _ hz')
  have c1 := pastC_1 (Pl.pwith Pl.evB h e).1
  have c4 := pastC_4 (Pl.pwith Pl.evB h e).1
  have HG : Hid (Pl.goesB t (Pl.pwith Pl.evB h e).1 = (decide ((Pl.pwith Pl.evB h e).1.tasks < t) || decide (0 < (Pl.pwith Pl.evB h e).1.due))) := rfl
  clear hz'
  generalize Pl.goesB t (Pl.pwith Pl.evB h e).1 = gb at *
  generalize (Pl.pwith Pl.evB h e).2 = okb at *
  generalize (Pl.pwith Pl.evB h e).1.tasks = ta at *
  generalize (Pl.pwith Pl.evB h e).1.due = du at *
  generalize pastC (Pl.pwith Pl.evB h e).1 = Cn at *
  generalize pastC h = C at *
  have CT := hide ct
  clear ct I
  go_enter Try.func17, Try.ntmps17
  go_wp2_with (first
    | (with_reducible show wpList _ _ _ (Oper.mk _ (Op.load 50 _) _ _ _ _ :: _) _ _; refine wl61 rfl (.tmp 3) rfl w.heap.size rfl _ (top3 _ _ _ _) hok.out ?_)
    | (with_reducible show wpList _ _ _ (Oper.mk _ (Op.load 46 _) _ _ _ _ :: _) _ _; refine we_load rfl (.tmp 4) rfl (w.heap.size + 1) rfl _ (top3' _ _ _ _) (evL_ok e) ?_))
  refine (hcall.out _).mono ?_
  rintro x1 X1 ⟨rfl, hB1⟩
  have HB1 := hide ((bel3 _ _ _ _).trans (hB1.mono (bel3 _ _ _ _).size))
  obtain ⟨Zp, HP0⟩ : ∃ Zp, Hid (X1.heap[w.heap.size]? = some (.cells Zp 50 (0, 0)) ∧ Zp.size = 47) := ⟨_, (hB1.block _ (Array.getElem?_eq_some_iff.1 (top3 _ _ _ _)).1).trans (top3 _ _ _ _), hok.out.1⟩
  obtain ⟨Z, HP2⟩ : ∃ Z, Hid (X1.heap[w.heap.size + 1 + 1]? = some (.cells Z 50 (0, 0)) ∧ Z.size = 47) := ⟨_, (hB1.block _ (Array.getElem?_eq_some_iff.1 (top3'' _ _ _ _)).1).trans (top3'' _ _ _ _), rfl⟩
  have HLT : Hid (w.heap.size + 1 + 1 < X1.heap.size) := (Array.getElem?_eq_some_iff.1 HP2.out.1).1
  clear hB1 hcall
  go_wp2_with (first
    | (with_reducible show wpList _ _ _ (Oper.mk _ (Op.store 50 _ _) _ _ _ _ :: _) _ _; refine ws61 rfl (.tmp 3) (.tmp 11) rfl w.heap.size rfl _ rfl _ HP0.out.1 HP0.out.2 hok'.out ?_; intro W8 hW8)
    | fail)
  refine gen_code (fun X => X.heap[w.heap.size]? = some (.cells Cn 50 (0, 0)) ∧ X.heap[w.heap.size + 1 + 1]? = some (.cells Z 50 (0, 0)) ∧ Below w.heap.size w X) ⟨by rw [hW8.out]; exact setRow_heap _ _ _ _ _ _ HP0.out.1, by rw [hW8.out]; exact (setRow_other _ _ _ _ (by omega)).trans HP2.out.1, by rw [hW8.out]; exact below_setRow HB1.out (Nat.le_refl _) _⟩ ?_
  rintro X ⟨hX0, hX2, hXB⟩
  have hX2d : X.drew.heap[w.heap.size + 1 + 1]? = some (.cells Z 50 (0, 0)) := hX2
  have x1 := (cell_of_block hX0 1).trans c1
  have x4 := (cell_of_block hX0 4).trans c4
  have ct := CT.out
  have xt : X.cell? ⟨gt, 0, none⟩ = some (.int .i64 t) := (Below.cell hXB (p := ⟨gt, 0, none⟩) hgt).trans ct
  have hZ := HP2.out.2
  clear hW8 W8
  by_cases hta : ta < t
  · refine wp_region_noPanic ?_
    refine wp_region_held_drew (S := (fun W => W.heap[w.heap.size]? = some (.cells Cn 50 (0, 0)) ∧ W.cell? ⟨w.heap.size, 1, none⟩ = some (.int .i64 ta) ∧ W.cell? ⟨w.heap.size, 4, none⟩ = some (.int .i64 du) ∧ W.cell? ⟨gt, 0, none⟩ = some (.int .i64 t))) (by kernel_rfl) ⟨hX0, x1, x4, xt⟩ (fun hHeld => ?_)
    refine wpAnyH_take (i := 0) (oi := Oper.mk (some 13) _ _ _ _ _) (v := .agg Cn) rfl (by kernel_rfl) (by kernel_rfl) (by kernel_rfl) (fun _ _ _ h => h) (yl61 (by rfl) (.tmp 3) rfl w.heap.size rfl Cn (fun _ h => h.1) hok'.out) (by assumption) ?_
    simp only [Act.put, List.setIfInBounds_toArray, List.set_cons_zero, List.set_cons_succ]
    refine wpAnyH_take (i := 1) (oi := Oper.mk (some 14) _ _ _ _ _) (v := ?_) rfl (by kernel_rfl) (by kernel_rfl) (by kernel_rfl) (fun _ _ _ h => h) (Or.inl ⟨by rfl, ?_⟩) (by assumption) ?_
    rotate_left
    · intro w hSw
      obtain ⟨hs0, hs1, hs2, hs3⟩ := hSw
      clear hs0
      go_simp
      all_goals (with_reducible rfl)
    simp only [Act.put, List.setIfInBounds_toArray, List.set_cons_zero, List.set_cons_succ]
    refine wpAnyH_take (i := 2) (oi := Oper.mk (some 15) _ _ _ _ _) (v := ?_) rfl (by kernel_rfl) (by kernel_rfl) (by kernel_rfl) (fun _ _ _ h => h) (Or.inl ⟨by rfl, ?_⟩) (by assumption) ?_
    rotate_left
    · intro w hSw
      obtain ⟨hs0, hs1, hs2, hs3⟩ := hSw
      clear hs0
      go_simp
      all_goals (with_reducible rfl)
    simp only [Act.put, List.setIfInBounds_toArray, List.set_cons_zero, List.set_cons_succ]
    refine wpAnyH_take (i := 3) (oi := Oper.mk (some 16) _ _ _ _ _) (v := ?_) rfl (by kernel_rfl) (by kernel_rfl) (by kernel_rfl) (fun _ _ _ h => h) (Or.inl ⟨by rfl, ?_⟩) (by assumption) ?_
    rotate_left
    · intro w hSw
      obtain ⟨hs0, hs1, hs2, hs3⟩ := hSw
      clear hs0
      go_simp
      all_goals (with_reducible rfl)
    simp only [Act.put, List.setIfInBounds_toArray, List.set_cons_zero, List.set_cons_succ]
    refine wpAnyH_take (i := 4) (oi := Oper.mk (some 17) _ _ _ _ _) (v := ?_) rfl (by kernel_rfl) (by kernel_rfl) (by kernel_rfl) (fun _ _ _ h => h) (Or.inl ⟨by rfl, ?_⟩) (by assumption) ?_
    rotate_left
    · intro w hSw
      obtain ⟨hs0, hs1, hs2, hs3⟩ := hSw
      clear hs0
      go_simp
      all_goals (with_reducible rfl)
    simp only [Act.put, List.setIfInBounds_toArray, List.set_cons_zero, List.set_cons_succ]
    refine wpAnyH_take (i := 5) (oi := Oper.mk (some 18) _ _ _ _ _) (v := ?_) rfl (by kernel_rfl) (by kernel_rfl) (by kernel_rfl) (fun _ _ _ h => h) (Or.inl ⟨by rfl, ?_⟩) (by assumption) ?_
    rotate_left
    · intro w hSw
      obtain ⟨hs0, hs1, hs2, hs3⟩ := hSw
      clear hs0
      go_simp
      all_goals (with_reducible rfl)
    simp only [Act.put, List.setIfInBounds_toArray, List.set_cons_zero, List.set_cons_succ]
    refine wpAnyH_take (i := 6) (oi := Oper.mk (some 19) _ _ _ _ _) (v := undef) rfl (by kernel_rfl) (by kernel_rfl) (by kernel_rfl) (fun _ _ _ h => h) (Or.inr ⟨by rfl, rfl⟩) (by assumption) ?_
    simp only [Act.put, List.setIfInBounds_toArray, List.set_cons_zero, List.set_cons_succ]
    refine wpAnyH_take (i := 7) (oi := Oper.mk (some 20) _ _ _ _ _) (v := undef) rfl (by kernel_rfl) (by kernel_rfl) (by kernel_rfl) (fun _ _ _ h => h) (Or.inr ⟨by rfl, rfl⟩) (by assumption) ?_
    simp only [Act.put, List.setIfInBounds_toArray, List.set_cons_zero, List.set_cons_succ]
    refine wpAnyH_take (i := 8) (oi := Oper.mk (some 21) _ _ _ _ _) (v := undef) rfl (by kernel_rfl) (by kernel_rfl) (by kernel_rfl) (fun _ _ _ h => h) (Or.inr ⟨by rfl, rfl⟩) (by assumption) ?_
    simp only [Act.put, List.setIfInBounds_toArray, List.set_cons_zero, List.set_cons_succ]
    refine wpAnyH_take (i := 9) (oi := Oper.mk (some 22) _ _ _ _ _) (v := ?_) rfl (by kernel_rfl) (by kernel_rfl) (by kernel_rfl) (fun _ _ _ h => h) (Or.inl ⟨by rfl, ?_⟩) (by assumption) ?_
    rotate_left
    · intro w hSw
      obtain ⟨hs0, hs1, hs2, hs3⟩ := hSw
      clear hs0
      go_simp
      all_goals (with_reducible rfl)
    simp only [Act.put, List.setIfInBounds_toArray, List.set_cons_zero, List.set_cons_succ]
    refine wpAnyH_ready (rs := [10]) (by kernel_rfl) (by simp) ?_
    refine AllReadyH.cons (o := Oper.mk none (Op.store 50 (.tmp 5) (.tmp 13)) _ _ _ none) rfl (fun K hK => ?_) AllReadyH.nil
    refine st61s rfl (.tmp 5) (.tmp 13) rfl (w.heap.size + 1 + 1) rfl Cn rfl Z hX2d hZ hok'.out ?_
    intro W9 hW9
    refine hK.out _ _ ?_ (fun hHeld9 => ?_)
    · (rw [hW9.out]; exact ⟨(setRow_other _ _ _ _ (by omega)).trans hX0, (cell_of_block ((setRow_other _ _ _ _ (by omega)).trans hX0) 1).trans c1, (cell_of_block ((setRow_other _ _ _ _ (by omega)).trans hX0) 4).trans c4, (Below.cell (below_setRow (below_drew' hXB) (by omega) _) (p := ⟨gt, 0, none⟩) hgt).trans ct⟩)
    clear hK K
    (try simp only [Act.put, List.setIfInBounds_toArray, List.set_cons_zero, List.set_cons_succ])
    refine wpAnyH_take (i := 11) (oi := Oper.mk (some 6) _ _ _ _ _) (v := ?_) rfl (by kernel_rfl) (by kernel_rfl) (by kernel_rfl) (fun _ _ _ h => h) (Or.inl ⟨by rfl, ?_⟩) (by assumption) ?_
    rotate_left
    · intro w hSw
      obtain ⟨hs0, hs1, hs2, hs3⟩ := hSw
      clear hs0
      go_simp
      all_goals (with_reducible rfl)
    simp only [Act.put, List.setIfInBounds_toArray, List.set_cons_zero, List.set_cons_succ]
    refine wpAnyH_done (by kernel_rfl) ?_ _
    refine NoPanic.normal ?_
    go_wp2_with fail
    refine bodyPost_ret (results_past Try.results17 _ W9 (w.heap.size + 1 + 1) Cn rfl (by rw [hW9.out]; exact setRow_heap _ _ _ _ _ _ hX2) hok'.out) rfl ⟨?_, ?_⟩
    · rw [HG.out]; first | rfl | simp [*]
    · rw [hW9.out]; exact below_setRow (below_drew' hXB) (by omega) _
  · by_cases hdu : 0 < du
    · refine wp_region_noPanic ?_
      refine wp_region_held_drew (S := (fun W => W.heap[w.heap.size]? = some (.cells Cn 50 (0, 0)) ∧ W.cell? ⟨w.heap.size, 1, none⟩ = some (.int .i64 ta) ∧ W.cell? ⟨w.heap.size, 4, none⟩ = some (.int .i64 du) ∧ W.cell? ⟨gt, 0, none⟩ = some (.int .i64 t))) (by kernel_rfl) ⟨hX0, x1, x4, xt⟩ (fun hHeld => ?_)
      refine wpAnyH_take (i := 0) (oi := Oper.mk (some 13) _ _ _ _ _) (v := .agg Cn) rfl (by kernel_rfl) (by kernel_rfl) (by kernel_rfl) (fun _ _ _ h => h) (yl61 (by rfl) (.tmp 3) rfl w.heap.size rfl Cn (fun _ h => h.1) hok'.out) (by assumption) ?_
      simp only [Act.put, List.setIfInBounds_toArray, List.set_cons_zero, List.set_cons_succ]
      refine wpAnyH_take (i := 1) (oi := Oper.mk (some 14) _ _ _ _ _) (v := ?_) rfl (by kernel_rfl) (by kernel_rfl) (by kernel_rfl) (fun _ _ _ h => h) (Or.inl ⟨by rfl, ?_⟩) (by assumption) ?_
      rotate_left
      · intro w hSw
        obtain ⟨hs0, hs1, hs2, hs3⟩ := hSw
        clear hs0
        go_simp
        all_goals (with_reducible rfl)
      simp only [Act.put, List.setIfInBounds_toArray, List.set_cons_zero, List.set_cons_succ]
      refine wpAnyH_take (i := 2) (oi := Oper.mk (some 15) _ _ _ _ _) (v := ?_) rfl (by kernel_rfl) (by kernel_rfl) (by kernel_rfl) (fun _ _ _ h => h) (Or.inl ⟨by rfl, ?_⟩) (by assumption) ?_
      rotate_left
      · intro w hSw
        obtain ⟨hs0, hs1, hs2, hs3⟩ := hSw
        clear hs0
        go_simp
        all_goals (with_reducible rfl)
      simp only [Act.put, List.setIfInBounds_toArray, List.set_cons_zero, List.set_cons_succ]
      refine wpAnyH_take (i := 3) (oi := Oper.mk (some 16) _ _ _ _ _) (v := ?_) rfl (by kernel_rfl) (by kernel_rfl) (by kernel_rfl) (fun _ _ _ h => h) (Or.inl ⟨by rfl, ?_⟩) (by assumption) ?_
      rotate_left
      · intro w hSw
        obtain ⟨hs0, hs1, hs2, hs3⟩ := hSw
        clear hs0
        go_simp
        all_goals (with_reducible rfl)
      simp only [Act.put, List.setIfInBounds_toArray, List.set_cons_zero, List.set_cons_succ]
      refine wpAnyH_take (i := 4) (oi := Oper.mk (some 17) _ _ _ _ _) (v := ?_) rfl (by kernel_rfl) (by kernel_rfl) (by kernel_rfl) (fun _ _ _ h => h) (Or.inl ⟨by rfl, ?_⟩) (by assumption) ?_
      rotate_left
      · intro w hSw
        obtain ⟨hs0, hs1, hs2, hs3⟩ := hSw
        clear hs0
        go_simp
        all_goals (with_reducible rfl)
      simp only [Act.put, List.setIfInBounds_toArray, List.set_cons_zero, List.set_cons_succ]
      refine wpAnyH_take (i := 5) (oi := Oper.mk (some 18) _ _ _ _ _) (v := ?_) rfl (by kernel_rfl) (by kernel_rfl) (by kernel_rfl) (fun _ _ _ h => h) (Or.inl ⟨by rfl, ?_⟩) (by assumption) ?_
      rotate_left
      · intro w hSw
        obtain ⟨hs0, hs1, hs2, hs3⟩ := hSw
        clear hs0
        go_simp
        all_goals (with_reducible rfl)
      simp only [Act.put, List.setIfInBounds_toArray, List.set_cons_zero, List.set_cons_succ]
      refine wpAnyH_take (i := 6) (oi := Oper.mk (some 19) _ _ _ _ _) (v := ?_) rfl (by kernel_rfl) (by kernel_rfl) (by kernel_rfl) (fun _ _ _ h => h) (Or.inl ⟨by rfl, ?_⟩) (by assumption) ?_
      rotate_left
      · intro w hSw
        obtain ⟨hs0, hs1, hs2, hs3⟩ := hSw
        clear hs0
        go_simp
        all_goals (with_reducible rfl)
      simp only [Act.put, List.setIfInBounds_toArray, List.set_cons_zero, List.set_cons_succ]
      refine wpAnyH_take (i := 7) (oi := Oper.mk (some 20) _ _ _ _ _) (v := ?_) rfl (by kernel_rfl) (by kernel_rfl) (by kernel_rfl) (fun _ _ _ h => h) (Or.inl ⟨by rfl, ?_⟩) (by assumption) ?_
      rotate_left
      · intro w hSw
        obtain ⟨hs0, hs1, hs2, hs3⟩ := hSw
        clear hs0
        go_simp
        all_goals (with_reducible rfl)
      simp only [Act.put, List.setIfInBounds_toArray, List.set_cons_zero, List.set_cons_succ]
      refine wpAnyH_take (i := 8) (oi := Oper.mk (some 21) _ _ _ _ _) (v := ?_) rfl (by kernel_rfl) (by kernel_rfl) (by kernel_rfl) (fun _ _ _ h => h) (Or.inl ⟨by rfl, ?_⟩) (by assumption) ?_
      rotate_left
      · intro w hSw
        obtain ⟨hs0, hs1, hs2, hs3⟩ := hSw
        clear hs0
        go_simp
        all_goals (with_reducible rfl)
      simp only [Act.put, List.setIfInBounds_toArray, List.set_cons_zero, List.set_cons_succ]
      refine wpAnyH_take (i := 9) (oi := Oper.mk (some 22) _ _ _ _ _) (v := ?_) rfl (by kernel_rfl) (by kernel_rfl) (by kernel_rfl) (fun _ _ _ h => h) (Or.inl ⟨by rfl, ?_⟩) (by assumption) ?_
      rotate_left
      · intro w hSw
        obtain ⟨hs0, hs1, hs2, hs3⟩ := hSw
        clear hs0
        go_simp
        all_goals (with_reducible rfl)
      simp only [Act.put, List.setIfInBounds_toArray, List.set_cons_zero, List.set_cons_succ]
      refine wpAnyH_ready (rs := [10]) (by kernel_rfl) (by simp) ?_
      refine AllReadyH.cons (o := Oper.mk none (Op.store 50 (.tmp 5) (.tmp 13)) _ _ _ none) rfl (fun K hK => ?_) AllReadyH.nil
      refine st61s rfl (.tmp 5) (.tmp 13) rfl (w.heap.size + 1 + 1) rfl Cn rfl Z hX2d hZ hok'.out ?_
      intro W9 hW9
      refine hK.out _ _ ?_ (fun hHeld9 => ?_)
      · (rw [hW9.out]; exact ⟨(setRow_other _ _ _ _ (by omega)).trans hX0, (cell_of_block ((setRow_other _ _ _ _ (by omega)).trans hX0) 1).trans c1, (cell_of_block ((setRow_other _ _ _ _ (by omega)).trans hX0) 4).trans c4, (Below.cell (below_setRow (below_drew' hXB) (by omega) _) (p := ⟨gt, 0, none⟩) hgt).trans ct⟩)
      clear hK K
      (try simp only [Act.put, List.setIfInBounds_toArray, List.set_cons_zero, List.set_cons_succ])
      refine wpAnyH_take (i := 11) (oi := Oper.mk (some 6) _ _ _ _ _) (v := ?_) rfl (by kernel_rfl) (by kernel_rfl) (by kernel_rfl) (fun _ _ _ h => h) (Or.inl ⟨by rfl, ?_⟩) (by assumption) ?_
      rotate_left
      · intro w hSw
        obtain ⟨hs0, hs1, hs2, hs3⟩ := hSw
        clear hs0
        go_simp
        all_goals (with_reducible rfl)
      simp only [Act.put, List.setIfInBounds_toArray, List.set_cons_zero, List.set_cons_succ]
      refine wpAnyH_done (by kernel_rfl) ?_ _
      refine NoPanic.normal ?_
      go_wp2_with fail
      refine bodyPost_ret (results_past Try.results17 _ W9 (w.heap.size + 1 + 1) Cn rfl (by rw [hW9.out]; exact setRow_heap _ _ _ _ _ _ hX2) hok'.out) rfl ⟨?_, ?_⟩
      · rw [HG.out]; first | rfl | simp [*]
      · rw [hW9.out]; exact below_setRow (below_drew' hXB) (by omega) _
    · refine wp_region_noPanic ?_
      refine wp_region_held_drew (S := (fun W => W.heap[w.heap.size]? = some (.cells Cn 50 (0, 0)) ∧ W.cell? ⟨w.heap.size, 1, none⟩ = some (.int .i64 ta) ∧ W.cell? ⟨w.heap.size, 4, none⟩ = some (.int .i64 du) ∧ W.cell? ⟨gt, 0, none⟩ = some (.int .i64 t))) (by kernel_rfl) ⟨hX0, x1, x4, xt⟩ (fun hHeld => ?_)
      refine wpAnyH_take (i := 0) (oi := Oper.mk (some 13) _ _ _ _ _) (v := .agg Cn) rfl (by kernel_rfl) (by kernel_rfl) (by kernel_rfl) (fun _ _ _ h => h) (yl61 (by rfl) (.tmp 3) rfl w.heap.size rfl Cn (fun _ h => h.1) hok'.out) (by assumption) ?_
      simp only [Act.put, List.setIfInBounds_toArray, List.set_cons_zero, List.set_cons_succ]
      refine wpAnyH_take (i := 1) (oi := Oper.mk (some 14) _ _ _ _ _) (v := ?_) rfl (by kernel_rfl) (by kernel_rfl) (by kernel_rfl) (fun _ _ _ h => h) (Or.inl ⟨by rfl, ?_⟩) (by assumption) ?_
      rotate_left
      · intro w hSw
        obtain ⟨hs0, hs1, hs2, hs3⟩ := hSw
        clear hs0
        go_simp
        all_goals (with_reducible rfl)
      simp only [Act.put, List.setIfInBounds_toArray, List.set_cons_zero, List.set_cons_succ]
      refine wpAnyH_take (i := 2) (oi := Oper.mk (some 15) _ _ _ _ _) (v := ?_) rfl (by kernel_rfl) (by kernel_rfl) (by kernel_rfl) (fun _ _ _ h => h) (Or.inl ⟨by rfl, ?_⟩) (by assumption) ?_
      rotate_left
      · intro w hSw
        obtain ⟨hs0, hs1, hs2, hs3⟩ := hSw
        clear hs0
        go_simp
        all_goals (with_reducible rfl)
      simp only [Act.put, List.setIfInBounds_toArray, List.set_cons_zero, List.set_cons_succ]
      refine wpAnyH_take (i := 3) (oi := Oper.mk (some 16) _ _ _ _ _) (v := ?_) rfl (by kernel_rfl) (by kernel_rfl) (by kernel_rfl) (fun _ _ _ h => h) (Or.inl ⟨by rfl, ?_⟩) (by assumption) ?_
      rotate_left
      · intro w hSw
        obtain ⟨hs0, hs1, hs2, hs3⟩ := hSw
        clear hs0
        go_simp
        all_goals (with_reducible rfl)
      simp only [Act.put, List.setIfInBounds_toArray, List.set_cons_zero, List.set_cons_succ]
      refine wpAnyH_take (i := 4) (oi := Oper.mk (some 17) _ _ _ _ _) (v := ?_) rfl (by kernel_rfl) (by kernel_rfl) (by kernel_rfl) (fun _ _ _ h => h) (Or.inl ⟨by rfl, ?_⟩) (by assumption) ?_
      rotate_left
      · intro w hSw
        obtain ⟨hs0, hs1, hs2, hs3⟩ := hSw
        clear hs0
        go_simp
        all_goals (with_reducible rfl)
      simp only [Act.put, List.setIfInBounds_toArray, List.set_cons_zero, List.set_cons_succ]
      refine wpAnyH_take (i := 5) (oi := Oper.mk (some 18) _ _ _ _ _) (v := ?_) rfl (by kernel_rfl) (by kernel_rfl) (by kernel_rfl) (fun _ _ _ h => h) (Or.inl ⟨by rfl, ?_⟩) (by assumption) ?_
      rotate_left
      · intro w hSw
        obtain ⟨hs0, hs1, hs2, hs3⟩ := hSw
        clear hs0
        go_simp
        all_goals (with_reducible rfl)
      simp only [Act.put, List.setIfInBounds_toArray, List.set_cons_zero, List.set_cons_succ]
      refine wpAnyH_take (i := 6) (oi := Oper.mk (some 19) _ _ _ _ _) (v := ?_) rfl (by kernel_rfl) (by kernel_rfl) (by kernel_rfl) (fun _ _ _ h => h) (Or.inl ⟨by rfl, ?_⟩) (by assumption) ?_
      rotate_left
      · intro w hSw
        obtain ⟨hs0, hs1, hs2, hs3⟩ := hSw
        clear hs0
        go_simp
        all_goals (with_reducible rfl)
      simp only [Act.put, List.setIfInBounds_toArray, List.set_cons_zero, List.set_cons_succ]
      refine wpAnyH_take (i := 7) (oi := Oper.mk (some 20) _ _ _ _ _) (v := ?_) rfl (by kernel_rfl) (by kernel_rfl) (by kernel_rfl) (fun _ _ _ h => h) (Or.inl ⟨by rfl, ?_⟩) (by assumption) ?_
      rotate_left
      · intro w hSw
        obtain ⟨hs0, hs1, hs2, hs3⟩ := hSw
        clear hs0
        go_simp
        all_goals (with_reducible rfl)
      simp only [Act.put, List.setIfInBounds_toArray, List.set_cons_zero, List.set_cons_succ]
      refine wpAnyH_take (i := 8) (oi := Oper.mk (some 21) _ _ _ _ _) (v := ?_) rfl (by kernel_rfl) (by kernel_rfl) (by kernel_rfl) (fun _ _ _ h => h) (Or.inl ⟨by rfl, ?_⟩) (by assumption) ?_
      rotate_left
      · intro w hSw
        obtain ⟨hs0, hs1, hs2, hs3⟩ := hSw
        clear hs0
        go_simp
        all_goals (with_reducible rfl)
      simp only [Act.put, List.setIfInBounds_toArray, List.set_cons_zero, List.set_cons_succ]
      refine wpAnyH_take (i := 9) (oi := Oper.mk (some 22) _ _ _ _ _) (v := ?_) rfl (by kernel_rfl) (by kernel_rfl) (by kernel_rfl) (fun _ _ _ h => h) (Or.inl ⟨by rfl, ?_⟩) (by assumption) ?_
      rotate_left
      · intro w hSw
        obtain ⟨hs0, hs1, hs2, hs3⟩ := hSw
        clear hs0
        go_simp
        all_goals (with_reducible rfl)
      simp only [Act.put, List.setIfInBounds_toArray, List.set_cons_zero, List.set_cons_succ]
      refine wpAnyH_ready (rs := [10]) (by kernel_rfl) (by simp) ?_
      refine AllReadyH.cons (o := Oper.mk none (Op.store 50 (.tmp 5) (.tmp 13)) _ _ _ none) rfl (fun K hK => ?_) AllReadyH.nil
      refine st61s rfl (.tmp 5) (.tmp 13) rfl (w.heap.size + 1 + 1) rfl Cn rfl Z hX2d hZ hok'.out ?_
      intro W9 hW9
      refine hK.out _ _ ?_ (fun hHeld9 => ?_)
      · (rw [hW9.out]; exact ⟨(setRow_other _ _ _ _ (by omega)).trans hX0, (cell_of_block ((setRow_other _ _ _ _ (by omega)).trans hX0) 1).trans c1, (cell_of_block ((setRow_other _ _ _ _ (by omega)).trans hX0) 4).trans c4, (Below.cell (below_setRow (below_drew' hXB) (by omega) _) (p := ⟨gt, 0, none⟩) hgt).trans ct⟩)
      clear hK K
      (try simp only [Act.put, List.setIfInBounds_toArray, List.set_cons_zero, List.set_cons_succ])
      refine wpAnyH_take (i := 11) (oi := Oper.mk (some 6) _ _ _ _ _) (v := ?_) rfl (by kernel_rfl) (by kernel_rfl) (by kernel_rfl) (fun _ _ _ h => h) (Or.inl ⟨by rfl, ?_⟩) (by assumption) ?_
      rotate_left
      · intro w hSw
        obtain ⟨hs0, hs1, hs2, hs3⟩ := hSw
        clear hs0
        go_simp
        all_goals (with_reducible rfl)
      simp only [Act.put, List.setIfInBounds_toArray, List.set_cons_zero, List.set_cons_succ]
      refine wpAnyH_done (by kernel_rfl) ?_ _
      refine NoPanic.normal ?_
      go_wp2_with fail
      refine bodyPost_ret (results_past Try.results17 _ W9 (w.heap.size + 1 + 1) Cn rfl (by rw [hW9.out]; exact setRow_heap _ _ _ _ _ _ hX2) hok'.out) rfl ⟨?_, ?_⟩
      · rw [HG.out]; first | rfl | simp [*]
      · rw [hW9.out]; exact below_setRow (below_drew' hXB) (by omega) _
end Go.Proofs.Ythimglgjeibaoaa

/- The walk to where a history is cut. -/
namespace Go.Proofs.Ythimglgjeibaoaa
open Go.RowKit
set_option linter.unusedVariables false
set_option linter.unusedSimpArgs false
/-- where the walker stands -/
def WkCut (t : Int) (h : Pl.Past) (l : List Ev) (n : Nat) (w : World) (i : Nat) (wr : World) : Prop :=
  ∃ hc : Pl.Past, wr.heap[w.heap.size]? = some (.cells (pastC hc) 50 (0, 0)) ∧ (∃ Z, wr.heap[w.heap.size + 1]? = some (.cells Z 50 (0, 0)) ∧ Z.size = 47) ∧ Below w.heap.size w wr ∧ ((Pl.walkP Pl.evB hc (l.drop i)).2 = true ∧ Pl.cutW t h l = Pl.cutW t hc (l.drop i)) ∧ Inv (n + i) hc
set_option maxRecDepth 100000 in
set_option maxHeartbeats 3200000 in
theorem walkCut_any (t : Int) (gt : Nat) (l : List Ev) (hwf : ∀ e ∈ l, e.Wf) (h : Pl.Past) (hgood : (Pl.walkP Pl.evB h l).2 = true) (n : Nat) (I : Inv n h) (hn : n + l.length ≤ 1000000) (v : Value) (w : World) (hr : EvRow w l v) (hgt : gt < w.heap.size) (ct : w.cell? ⟨gt, 0, none⟩ = some (.int .i64 t)) :
    Calls Try.prog 16 #[v, pastV h, .func (.func 17) #[] #[.pointer (some ⟨gt, 0, none⟩)]] w fun x w' => (∃ gb, x = .returned (.tuple #[pastV (Pl.cutW t h l), .bool gb])) ∧ Below w.heap.size w w' := by
  obtain ⟨ad, cap, rfl, hc, hmx, hx⟩ := hr
  unfold maxLen at hmx
  have HX := hide hx
  have HW := hide hwf
  have HI := hide I
  have HGD := hide hgood
  have CT := hide ct
  clear hx hwf I hgood ct
  unfold pastV
  go_enter Try.func16, Try.ntmps16
  go_wp2_with fail
  go_loopw [14] (fun iv wr => ∃ i : Nat, i ≤ l.length ∧ iv = .int .i64 i ∧ Hid (WkCut t h l n w i wr)) (fun iv _ => l.length - (intOf iv).toNat)
  case atStart =>
    exact ⟨0, by omega, rfl, h, top2 _ _ _, ⟨_, top2' _ _ _, rfl⟩, ((Below.refl _ _).alloc (Nat.le_refl _) _).alloc (by simp) _, ⟨by simpa using HGD.out, by simp⟩, by simpa using HI.out⟩
  case round =>
    obtain ⟨i, hi, rfl, HR⟩ := hrel
    obtain ⟨hcur, hb0, ⟨Z, hb1, hZ⟩, hB, ⟨hgd, hwk⟩, hI⟩ := HR.out
    have hok := hide (pastC_ok hcur hI.size)
    by_cases hlt : i < l.length
    · obtain ⟨g, off, rfl, hg, hs⟩ := HX.out (by omega)
      obtain ⟨e, he⟩ : ∃ e, l[i]? = some e := ⟨_, List.getElem?_eq_getElem hlt⟩
      have HAT := hide ((hs i e he).later hB hg)
      have hz' : (Pl.pwith Pl.evB hcur e).1.opn.length = 40 := by
        unfold Pl.pwith
        have hz := hI.size
        split
        · exact hz
        · split
          · exact hz
          · split
            · simp [Pl.withCmd, hz]
            · split
              · unfold Pl.withCame; split <;> simp [hz]
              · exact hz
      have hcall : Hid (∀ W, Below w.heap.size w W → Calls Try.prog 17 #[.agg (pastC hcur), evV e, .pointer (some ⟨gt, 0, none⟩)] W fun x w' => x = .returned (.tuple #[.agg (pastC (Pl.pwith Pl.evB hcur e).1), .bool (Pl.goesB t (Pl.pwith Pl.evB hcur e).1)]) ∧ Below W.heap.size W w') := fun W hBW => cloCut_any hcur hI (by omega) e (HW.out e (List.mem_of_getElem? he)) hz' t gt W (by have := hBW.size; omega) ((Below.cell hBW (p := ⟨gt, 0, none⟩) hgt).trans CT.out)
      have hd : l.drop i = e :: l.drop (i + 1) := by
        have := List.drop_eq_getElem_cons hlt
        rw [this]
        congr 1
        have h2 := List.getElem?_eq_getElem hlt
        rw [he] at h2
        exact (Option.some.inj h2).symm
      rw [hd] at hgd hwk
      have hok1 : (Pl.pwith Pl.evB hcur e).2 = true := by
        cases hq : (Pl.pwith Pl.evB hcur e).2
        · simp [Pl.walkP, hq] at hgd
        · rfl
      have HGD2 : Hid ((Pl.walkP Pl.evB (Pl.pwith Pl.evB hcur e).1 (l.drop (i + 1))).2 = true) := by
        show _ = _
        simpa [Pl.walkP, hok1] using hgd
      have HNX := hide (hI.next e hok1)
      have HWK : Hid (Pl.cutW t h l = if Pl.goesB t (Pl.pwith Pl.evB hcur e).1 = true then Pl.cutW t (Pl.pwith Pl.evB hcur e).1 (l.drop (i + 1)) else (Pl.pwith Pl.evB hcur e).1) := by
        show _ = _
        rw [hwk]
        rfl
      have hok' := hide (pastC_ok _ hz')
      generalize hP2 : Pl.goesB t (Pl.pwith Pl.evB hcur e).1 = okb at *
      generalize hP1 : (Pl.pwith Pl.evB hcur e).1 = hnew at *
      have HB0 := hide hb0
      have HB1 := hide hb1
      have HBB := hide hB
      have HZ := hide hZ
      generalize pastC hcur = C at *
      generalize hCn : pastC hnew = Cn at *
      clear hs he hb0 hb1 hB hwk hgd hI hZ HR hz' hok1 hd hP1 hP2
      have hii : (i : Int) < (l.length : Int) := by omega
      go_wp2_with (first
        | (with_reducible show wpList _ _ _ (Oper.mk _ (Op.load 46 (.tmp 16)) _ _ _ _ :: _) _ _; refine we_mid rfl (.tmp 16) rfl g (off + i * 17) rfl e HAT.out ?_)
        | (with_reducible show wpList _ _ _ (Oper.mk _ (Op.store 46 _ _) _ _ _ _ :: _) _ _; refine we_store rfl (.tmp 9) (.tmp 17) rfl wr.heap.size rfl _ rfl rfl rfl (evL_ok e) ?_)
        | (with_reducible show wpList _ _ _ (Oper.mk _ (Op.load 50 _) _ _ _ _ :: _) _ _; refine wl61 rfl (.tmp 4) rfl w.heap.size rfl _ (alloc_keeps HB0.out) hok.out ?_)
        | (with_reducible show wpList _ _ _ (Oper.mk _ (Op.load 46 (.tmp 9)) _ _ _ _ :: _) _ _; refine we_load rfl (.tmp 9) rfl wr.heap.size rfl _ (top1 _ _) (evL_ok e) ?_))
      refine (hcall.out _ (HBB.out.alloc (by have := HBB.out.size; omega) _)).mono ?_
      rintro x1 X1 ⟨rfl, hB1⟩
      have HX0 := hide (wk_x1 (w := w) HB0.out hB1)
      have HOS := hide hok.out.1
      have H9 : Hid (∀ W9, Hid (W9 = (X1.alloc (.cells Cn 50)).setRow w.heap.size Cn) → W9.heap[w.heap.size]? = some (.cells Cn 50 (0, 0)) ∧ W9.heap[w.heap.size + 1]? = some (.cells Z 50 (0, 0)) ∧ Below w.heap.size w W9) := fun W9 hW9 => wk_w9 HB0.out HB1.out HBB.out hB1 hW9
      clear hcall hB1 HB0 HB1 HBB HAT
      cases okb
      · go_wp2_with (first
          | (with_reducible show wpList _ _ _ (Oper.mk _ (Op.store 50 (.tmp 10) _) _ _ _ _ :: _) _ _; refine ws61top rfl (.tmp 10) (.tmp 23) rfl rfl _ rfl rfl hok'.out ?_)
          | (with_reducible show wpList _ _ _ (Oper.mk _ (Op.load 50 (.tmp 10)) _ _ _ _ :: _) _ _; refine wl61 rfl (.tmp 10) rfl X1.heap.size rfl _ (top1 _ _) hok'.out ?_)
          | (with_reducible show wpList _ _ _ (Oper.mk _ (Op.store 50 (.tmp 4) _) _ _ _ _ :: _) _ _; refine ws61 rfl (.tmp 4) (.tmp 25) rfl w.heap.size rfl _ rfl _ (alloc_keeps HX0.out) HOS.out hok'.out ?_; intro W9 hW9; have HW9 := hide (H9.out W9 hW9))
          | (with_reducible show wpList _ _ _ (Oper.mk _ (Op.load 50 (.tmp 4)) _ _ _ _ :: _) _ _; refine wl61 rfl (.tmp 4) rfl w.heap.size rfl _ HW9.out.1 hok'.out ?_)
          | (with_reducible show wpList _ _ _ (Oper.mk _ (Op.store 50 (.tmp 6) _) _ _ _ _ :: _) _ _; refine ws61 rfl (.tmp 6) (.tmp 28) rfl (w.heap.size + 1) rfl _ rfl _ HW9.out.2.1 HZ.out hok'.out ?_; intro W10 hW10))
        refine bodyPost_ret (results_past Try.results16 _ W10 (w.heap.size + 1) Cn rfl (by rw [hW10.out]; exact setRow_heap _ _ _ _ _ _ HW9.out.2.1) hok'.out) rfl ⟨?_, ?_⟩
        · exact ⟨_, by rw [HWK.out, ← hCn]; rfl⟩
        · rw [hW10.out]; exact below_setRow HW9.out.2.2 (by omega) _
      · go_wp2_with (first
          | (with_reducible show wpList _ _ _ (Oper.mk _ (Op.store 50 (.tmp 10) _) _ _ _ _ :: _) _ _; refine ws61top rfl (.tmp 10) (.tmp 23) rfl rfl _ rfl rfl hok'.out ?_)
          | (with_reducible show wpList _ _ _ (Oper.mk _ (Op.load 50 (.tmp 10)) _ _ _ _ :: _) _ _; refine wl61 rfl (.tmp 10) rfl X1.heap.size rfl _ (top1 _ _) hok'.out ?_)
          | (with_reducible show wpList _ _ _ (Oper.mk _ (Op.store 50 (.tmp 4) _) _ _ _ _ :: _) _ _; refine ws61 rfl (.tmp 4) (.tmp 25) rfl w.heap.size rfl _ rfl _ (alloc_keeps HX0.out) HOS.out hok'.out ?_; intro W9 hW9; have HW9 := hide (H9.out W9 hW9)))
        go_roundw
        case rel => exact ⟨i + 1, by omega, by go_num, hnew, by rw [hCn]; exact HW9.out.1, ⟨Z, HW9.out.2.1, HZ.out⟩, HW9.out.2.2, ⟨HGD2.out, by rw [HWK.out]; simp⟩, HNX.out⟩
        case measure => simp [intOf]; omega
    · have hie : i = l.length := by omega
      have HE : Hid (Pl.cutW t h l = hcur) := by
        show _ = _
        rw [hwk, hie, List.drop_length]
        rfl
      have HB0 := hide hb0
      have HB1 := hide hb1
      have HBB := hide hB
      have HZ := hide hZ
      generalize hCc : pastC hcur = C at *
      clear hb0 hb1 hB hZ hwk hgd hI HR hie
      go_wp2_with (first
        | (with_reducible show wpList _ _ _ (Oper.mk _ (Op.load 50 _) _ _ _ _ :: _) _ _; refine wl61 rfl (.tmp 4) rfl w.heap.size rfl _ HB0.out hok.out ?_)
        | (with_reducible show wpList _ _ _ (Oper.mk _ (Op.store 50 _ _) _ _ _ _ :: _) _ _; refine ws61 rfl (.tmp 6) (.tmp 30) rfl (w.heap.size + 1) rfl _ rfl _ HB1.out HZ.out hok.out ?_; intro W10 hW10))
      refine bodyPost_ret (results_past Try.results16 _ W10 (w.heap.size + 1) C rfl (by rw [hW10.out]; exact setRow_heap _ _ _ _ _ _ HB1.out) hok.out) rfl ⟨?_, ?_⟩
      · exact ⟨_, by rw [HE.out, ← hCc]; rfl⟩
      · rw [hW10.out]; exact below_setRow HBB.out (by omega) _
end Go.Proofs.Ythimglgjeibaoaa

/- A history up to the end of so many tasks, as the program has it. -/
namespace Go.Proofs.Ythimglgjeibaoaa
open Go.RowKit
set_option linter.unusedVariables false
set_option linter.unusedSimpArgs false
set_option maxRecDepth 100000 in
set_option maxHeartbeats 3200000 in
theorem implHistCut_any (l : List Ev) (hwf : ∀ e ∈ l, e.Wf) (hN : l.length ≤ 1048576) (t : Int) (v : Value) (w : World) (hr : EvRow w l v) :
    Calls Try.prog 7 #[v, .int .i64 t] w fun x w' => ∃ v', x = .returned v' ∧ w'.ownsRow w.heap.size 46 17 v' (Pl.histCut t l).length ((Pl.histCut t l).flatMap evL) ∧ Below w.heap.size w w' := by
  have HRW := hide hr
  have hok := hide (fun W hW => implHistOk_any l hwf hN v W hW)
  rw [(Pl.past_hist evB_fit l).1] at hok
  have HW := hide hwf
  obtain ⟨ad, cap, rfl, hc, hmx, hx⟩ := hr
  unfold maxLen at hmx
  clear hx hwf
  by_cases ht : 1 ≤ t
  · have hlt1 : ¬ t < 1 := by omega
    cases hh : Pl.histB Pl.evB l
    · rw [hh] at hok
      have HE : Hid (Pl.histCut t l = []) := by show _ = _; unfold Pl.histCut; rw [hh]; simp
      rw [HE.out]
      go_enter Try.func7, Try.ntmps7
      go_wp2_with fail
      refine (hok.out _ (HRW.out.later ((Below.refl _ _).alloc (Nat.le_refl _) _))).mono ?_
      rintro x1 X1 ⟨rfl, hB1⟩
      have HB1 := hide (((Below.refl w.heap.size w).alloc (Nat.le_refl _) (.cells #[.int .i64 t] 3)).trans (hB1.mono (by simp)))
      clear hB1 hok
      go_wp2_with fail
      go_ret
      exact ⟨_, rfl, ⟨by simp, .inl ⟨rfl, by simp⟩⟩, HB1.out⟩
    · rw [hh] at hok
      have hgood := hist_walk hh
      have hsm : ∀ e ∈ l, e.Small := hist_small hh
      have hwk := hide (fun gt W hW a b => walkCut_any t gt l HW.out Pl.Past.none hgood 0 inv_none (by have := (hist_left hh).2.1; omega) (.slice ad l.length cap) W hW a b)
      have hol := hide (fun v W hW => ownListEv_any (l.take (Pl.cutN t l)) (fun e he => hsm e (List.mem_of_mem_take he)) (by rw [cut_len hh]; have := (cutN_any hh t).1; omega) v W hW)
      have HEV := hide (cutN_any hh t).2.1
      have HLE := hide (cutN_any hh t).1
      have hz : (Pl.cutW t Pl.Past.none l).opn.length = 40 := by
        have : ∀ (r : List Ev) (h : Pl.Past), h.opn.length = 40 → (Pl.cutW t h r).opn.length = 40 := by
          intro r
          induction r with
          | nil => intro h hz; exact hz
          | cons e r ih =>
            intro h hz
            have hz' : (Pl.pwith Pl.evB h e).1.opn.length = 40 := by
              unfold Pl.pwith
              split
              · exact hz
              · split
                · exact hz
                · split
                  · simp [Pl.withCmd, hz]
                  · split
                    · unfold Pl.withCame; split <;> simp [hz]
                    · exact hz
            unfold Pl.cutW
            split
            · exact ih _ hz'
            · exact hz'
        exact this l Pl.Past.none (by simp [Pl.Past.none])
      have hok' := hide (pastC_ok _ hz)
      have c0 := pastC_0 (Pl.cutW t Pl.Past.none l)
      rw [HEV.out] at c0
      have HE : Hid (Pl.histCut t l = l.take (Pl.cutN t l)) := by show _ = _; unfold Pl.histCut; rw [if_pos ⟨hh, ht⟩]
      rw [HE.out]
      unfold pastV at hwk
      generalize pastC (Pl.cutW t Pl.Past.none l) = Cn at *
      generalize hcN : Pl.cutN t l = cn at *
      have hcl : cn ≤ l.length := HLE.out
      clear hz hgood hsm hcN HE HEV
      go_enter Try.func7, Try.ntmps7
      go_wp2_with fail
      refine (hok.out _ (HRW.out.later ((Below.refl _ _).alloc (Nat.le_refl _) _))).mono ?_
      rintro x1 X1 ⟨rfl, hB1⟩
      have HB1 := hide (((Below.refl w.heap.size w).alloc (Nat.le_refl _) (.cells #[.int .i64 t] 3)).trans (hB1.mono (by simp)))
      have hbx : X1.heap[w.heap.size]? = some (.cells #[.int .i64 t] 3 (0, 0)) := (hB1.block _ (by simp)).trans (top1 _ _)
      have HC0 := hide (cell_of_block hbx 0)
      have HL0 := hide (Array.getElem?_eq_some_iff.1 hbx).1
      clear hB1 hok hbx
      go_wp2_with (first
        | (with_reducible show wpList _ _ _ (Oper.mk _ (Op.build 50 _) _ _ _ _ :: _) _ _; refine wb61 rfl rfl ?_)
        | fail)
      refine (hwk.out w.heap.size X1 (HRW.out.later HB1.out) HL0.out HC0.out).mono ?_
      rintro x2 X2 ⟨⟨gb, rfl⟩, hB2⟩
      have HB2 := hide (HB1.out.trans (hB2.mono HB1.out.size))
      clear hB2 hwk
      go_wp2_with (first
        | (with_reducible show wpList _ _ _ (Oper.mk _ (Op.store 50 (.tmp 5) _) _ _ _ _ :: _) _ _; refine ws61top rfl (.tmp 5) (.tmp 19) rfl rfl _ rfl rfl hok'.out ?_)
        | fail)
      have HXB := hide (HB2.out.alloc HB2.out.size (.cells Cn 50))
      refine (hol.out _ _ ((HRW.out.take hcl).later HXB.out)).mono ?_
      rintro x3 X3 ⟨v3, rfl, ho3, hB3⟩
      generalize hL0 : l.take cn = L0 at *
      have HL0 := hide hL0
      clear hL0
      have HO3 := hide (ownsRow_base ho3 HXB.out.size)
      have HB3 := hide (HXB.out.trans (hB3.mono HXB.out.size))
      obtain ⟨a3, c3, hav3⟩ := ownsRow_form ho3
      subst hav3
      clear ho3 hB3
      go_wp2_with fail
      go_ret
      exact ⟨_, rfl, by rw [show l.take cn = L0 from HL0.out]; exact HO3.out, HB3.out⟩
  · have hlt1 : t < 1 := by omega
    have HE : Hid (Pl.histCut t l = []) := by show _ = _; unfold Pl.histCut; rw [if_neg (fun hc => ht hc.2)]
    rw [HE.out]
    go_enter Try.func7, Try.ntmps7
    go_wp2_with fail
    go_ret
    exact ⟨_, rfl, ⟨by simp, .inl ⟨rfl, by simp⟩⟩, (Below.refl _ _).alloc (Nat.le_refl _) _⟩
end Go.Proofs.Ythimglgjeibaoaa
