/- Rows of items in memory of their own; a cache copied by the laws. -/
import Derived.Test.YthkklmfjdjiafaaCaT
namespace Go.Proofs.Ythkklmfjdjiafaa
open Go.RowKit
set_option linter.unusedVariables false
set_option linter.unusedSimpArgs false
/-- the first n items lie in these cells, their rows in ranges of blocks that follow one another -/
def IIn (C : Array Value) (s : Nat → Nat) (n : Nat) (w : World) (l : List It) : Prop :=
  (∀ j, s j ≤ s (j + 1)) ∧ ∀ j it, j < n → l[j]? = some it → ∃ vc vp, (∀ t u, (itL it vc vp)[t]? = some u → C[j * 10 + t]? = some u) ∧ Own2 (s j) (s (j + 1)) w it vc vp
theorem up_s {s : Nat → Nat} (h : ∀ j, s j ≤ s (j + 1)) : ∀ (k i : Nat), s i ≤ s (i + k)
  | 0, i => Nat.le_refl _
  | k + 1, i => Nat.le_trans (up_s h k i) (h (i + k))
theorem le_s {s : Nat → Nat} (h : ∀ j, s j ≤ s (j + 1)) {i j : Nat} (hij : i ≤ j) : s i ≤ s j := by
  have := up_s h (j - i) i
  rwa [show i + (j - i) = j by omega] at this
theorem IIn.later {C : Array Value} {s : Nat → Nat} {n : Nat} {w w1 : World} {l : List It} {hi : Nat} (h : IIn C s n w l) (hs : s n ≤ hi) (hB : Below hi w w1) : IIn C s n w1 l := by
  obtain ⟨h1, h2⟩ := h
  refine ⟨h1, fun j it hj hl => ?_⟩
  obtain ⟨vc, vp, hc, ho⟩ := h2 j it hj hl
  exact ⟨vc, vp, hc, ho.later (hB.mono (by have := le_s h1 (show j + 1 ≤ n by omega); omega))⟩
theorem IIn.mid {C : Array Value} {s : Nat → Nat} {n lo hi : Nat} {w w1 : World} {l : List It} (h : IIn C s n w l) (hB : Mid lo hi w w1) (ho : s n ≤ lo ∨ hi ≤ s 0) : IIn C s n w1 l := by
  obtain ⟨h1, h2⟩ := h
  refine ⟨h1, fun j it hj hl => ?_⟩
  obtain ⟨vc, vp, hc, h3⟩ := h2 j it hj hl
  exact ⟨vc, vp, hc, h3.mid hB (by have := le_s h1 (show j + 1 ≤ n by omega); have := le_s h1 (show 0 ≤ j by omega); omega)⟩
/-- a slice of items in a block of its own, all within these bounds -/
def IBlk (lo hi : Nat) (w : World) (l : List It) (v : Value) : Prop :=
  ∃ a c, v = .slice a l.length c ∧ l.length ≤ c ∧ c ≤ maxLen ∧ (0 < l.length → ∃ b C s, a = some ⟨b, 0, none⟩ ∧ lo ≤ b ∧ b < hi ∧ w.heap[b]? = some (.cells C 58 (0, 0)) ∧ l.length * 10 ≤ C.size ∧ lo ≤ s 0 ∧ s l.length ≤ hi ∧ IIn C s l.length w l)
theorem IBlk.later {lo hi : Nat} {w w1 : World} {l : List It} {v : Value} (h : IBlk lo hi w l v) (hB : Below hi w w1) : IBlk lo hi w1 l v := by
  obtain ⟨a, c, hv, h1, h2, hx⟩ := h
  refine ⟨a, c, hv, h1, h2, fun hl => ?_⟩
  obtain ⟨b, C, s, ha, hb, hb2, hc, hs, q1, q2, hi⟩ := hx hl
  exact ⟨b, C, s, ha, hb, hb2, (hB.block _ hb2).trans hc, hs, q1, q2, hi.later q2 hB⟩
theorem IBlk.up {lo hi lo' hi' : Nat} {w : World} {l : List It} {v : Value} (h : IBlk lo hi w l v) (h1 : lo' ≤ lo) (h2 : hi ≤ hi') : IBlk lo' hi' w l v := by
  obtain ⟨a, c, hv, e1, e2, hx⟩ := h
  refine ⟨a, c, hv, e1, e2, fun hl => ?_⟩
  obtain ⟨b, C, s, ha, hb, hb2, hc, hs, q1, q2, hi⟩ := hx hl
  exact ⟨b, C, s, ha, by omega, by omega, hc, hs, by omega, by omega, hi⟩
theorem IBlk.mid {lo hi lo' hi' : Nat} {w w1 : World} {l : List It} {v : Value} (h : IBlk lo hi w l v) (hB : Mid lo' hi' w w1) (ho : hi ≤ lo' ∨ hi' ≤ lo) : IBlk lo hi w1 l v := by
  obtain ⟨a, c, hv, h1, h2, hx⟩ := h
  refine ⟨a, c, hv, h1, h2, fun hl => ?_⟩
  obtain ⟨b, C, s, ha, hb, hb2, hc, hs, q1, q2, hi⟩ := hx hl
  exact ⟨b, C, s, ha, hb, hb2, (hB.block _ (Array.getElem?_eq_some_iff.1 hc).1 (by omega)).trans hc, hs, q1, q2, hi.mid hB (by omega)⟩
theorem IBlk.row {lo hi : Nat} {w : World} {l : List It} {v : Value} (h : IBlk lo hi w l v) : IRow hi w l v := by
  obtain ⟨a, c, hv, h1, h2, hx⟩ := h
  refine ⟨a, c, hv, h1, h2, fun hl => ?_⟩
  obtain ⟨b, C, s, ha, hb, hb2, hc, hs, q1, q2, hi⟩ := hx hl
  refine ⟨b, 0, ha, hb2, fun i it he => ?_⟩
  have hil := (List.getElem?_eq_some_iff.1 he).1
  obtain ⟨vc, vp, hcl, ho⟩ := hi.2 i it hil he
  exact ⟨vc, vp, fun j u hu => by rw [cell_of_block hc, Nat.zero_add]; exact hcl j u hu, ho.two.up (by have := le_s hi.1 (show i + 1 ≤ l.length by omega); omega)⟩
/-- a new range behind the others -/
def snew (s : Nat → Nat) (i e : Nat) : Nat → Nat := fun j => if j ≤ i then s j else e
theorem snew_le {s : Nat → Nat} {i e j : Nat} (h : j ≤ i) : snew s i e j = s j := by simp [snew, h]
theorem snew_gt {s : Nat → Nat} {i e j : Nat} (h : i < j) : snew s i e j = e := by simp [snew]; omega
theorem snew_up {s : Nat → Nat} {i e : Nat} (h : ∀ j, s j ≤ s (j + 1)) (he : s i ≤ e) (j : Nat) : snew s i e j ≤ snew s i e (j + 1) := by
  by_cases h1 : j < i
  · rw [snew_le (by omega), snew_le (by omega)]; exact h j
  · by_cases h2 : j = i
    · subst h2
      rw [snew_le (Nat.le_refl _), snew_gt (by omega)]; exact he
    · rw [snew_gt (by omega), snew_gt (by omega)]; exact Nat.le_refl _
/-- one more item -/
theorem IIn.next {C C' : Array Value} {s : Nat → Nat} {i : Nat} {w : World} {l : List It} {it : It} {vc vp : Value} {lo e : Nat} (h : IIn C s i w l) (he : l[i]? = some it)
    (hold : ∀ j, j < i → ∀ t, t < 10 → C'[j * 10 + t]? = C[j * 10 + t]?) (hnew : ∀ t u, (itL it vc vp)[t]? = some u → C'[i * 10 + t]? = some u) (ho : Own2 lo e w it vc vp) (h1 : s i ≤ lo) (h2 : lo ≤ e) : IIn C' (snew s i e) (i + 1) w l := by
  obtain ⟨h3, h4⟩ := h
  refine ⟨snew_up h3 (by omega), fun j it' hj hl => ?_⟩
  by_cases hji : j = i
  · subst hji
    rw [he] at hl
    obtain rfl := Option.some.inj hl
    exact ⟨vc, vp, hnew, by rw [snew_le (Nat.le_refl _), snew_gt (by omega)]; exact ho.up h1 (Nat.le_refl _)⟩
  · obtain ⟨vc', vp', hc, h5⟩ := h4 j it' (by omega) hl
    refine ⟨vc', vp', fun t u hu => ?_, by rw [snew_le (by omega), snew_le (by omega)]; exact h5⟩
    have ht : t < 10 := by have := (List.getElem?_eq_some_iff.1 hu).1; simpa using this
    rw [hold j (by omega) t ht]
    exact hc t u hu
/-- as many as were copied so far -/
def TI (l : List It) (w : World) (i : Nat) (wr : World) : Prop :=
  (∃ C s, wr.heap[w.heap.size]? = some (.cells C 58 (0, 0)) ∧ C.size = l.length * 10 ∧ w.heap.size + 1 ≤ s 0 ∧ s i ≤ wr.heap.size ∧ IIn C s i wr l) ∧ Below w.heap.size w wr
theorem TI.start {l : List It} {w : World} {M : Array Value} (h : M.size = l.length * 10) : TI l w 0 (w.alloc (.cells M 58)) :=
  ⟨⟨M, fun _ => w.heap.size + 1, by rw [heap_alloc_at, if_pos rfl], h, Nat.le_refl _, by simp, fun _ => Nat.le_refl _, fun j it hj => by omega⟩, (Below.refl _ _).alloc (Nat.le_refl _) _⟩
theorem TI.lt {l : List It} {w wr : World} {i : Nat} (h : TI l w i wr) : w.heap.size < wr.heap.size := by
  obtain ⟨⟨C, s, h0, _⟩, _⟩ := h
  exact (Array.getElem?_eq_some_iff.1 h0).1
theorem TI.there {l : List It} {w wr X : World} {i : Nat} (h : TI l w i wr) (hB : Below wr.heap.size wr X) (hi : i < l.length) : X.there w.heap.size (i * 10) 10 := by
  have hlt := h.lt
  obtain ⟨⟨C, s, h0, hC, _⟩, _⟩ := h
  exact qthere ((hB.block _ hlt).trans h0) (by rw [hC]; exact mul_next hi)
theorem TI.next {l : List It} {w wr X : World} {i : Nat} {it : It} {vc vp : Value} (h : TI l w i wr) (he : l[i]? = some it) (ho : Own2 wr.heap.size X.heap.size X it vc vp) (hB : Below wr.heap.size wr X) : TI l w (i + 1) (X.setCells w.heap.size (i * 10) (itL it vc vp)) := by
  have hlt := h.lt
  have hi : i < l.length := (List.getElem?_eq_some_iff.1 he).1
  have hmm := mul_next (m := 10) hi
  obtain ⟨⟨C, s, h0, hC, q0, q1, hin⟩, h2⟩ := h
  have h0X := (hB.block _ hlt).trans h0
  obtain ⟨C', h3, h4, h5, h6⟩ := qset_block (itL it vc vp) (i * 10) X C h0X
  have hlen : (itL it vc vp).length = 10 := rfl
  rw [hlen] at h5 h6
  have hM : Mid w.heap.size (w.heap.size + 1) X (X.setCells w.heap.size (i * 10) (itL it vc vp)) := by
    have : ∀ (vs : List Value) (o : Nat) (Y : World), Mid w.heap.size (w.heap.size + 1) X Y → Mid w.heap.size (w.heap.size + 1) X (Y.setCells w.heap.size o vs) := by
      intro vs
      induction vs with
      | nil => intro o Y h; exact h
      | cons v r ih => intro o Y h; exact ih (o + 1) _ (h.set (Nat.le_refl _) (by omega))
    exact this _ _ _ (Mid.refl _ _ _)
  have hsX := hB.size
  have hsM := hM.size
  refine ⟨⟨C', snew s i X.heap.size, h3, by omega, by rw [snew_le (by omega)]; exact q0, by rw [snew_gt (by omega)]; exact hsM, ?_⟩, qset_below (Nat.le_refl _) _ _ _ (h2.trans (hB.mono h2.size))⟩
  refine IIn.next (lo := wr.heap.size) (e := X.heap.size) (C := C) ?_ he (fun j hj t ht => ?_) (fun t u hu => h6 (by omega) t u hu) ?_ q1 hsX
  · exact (hin.later q1 hB).mid hM (.inr q0)
  · rw [h5 _ (by have := mul_next (m := 10) (show j < i by omega); omega)]
  · exact ho.mid hM (.inr (by omega))
theorem TI.done {l : List It} {w wr : World} (h : TI l w l.length wr) (hN : l.length ≤ 1048576) : IBlk w.heap.size wr.heap.size wr l (.slice (some ⟨w.heap.size, 0, none⟩) l.length l.length) := by
  have hlt := h.lt
  obtain ⟨⟨C, s, h0, hC, q0, q1, hin⟩, h2⟩ := h
  exact ⟨_, _, rfl, Nat.le_refl _, by unfold maxLen; omega, fun _ => ⟨_, C, s, rfl, Nat.le_refl _, hlt, h0, by omega, by omega, q1, hin⟩⟩
theorem infoIt : (Try.prog.info? 58).map (fun i => (i.zero, i.size, i.bytes)) = some (some (.agg #[.int .i64 0, .int .i64 0, .slice none 0 0, .int .i64 0, .int .i64 0, .int .i64 0, .string ⟨#[]⟩, .string ⟨#[]⟩, .slice none 0 0, .int .i64 0]), 10, 128) := by kernel_rfl
theorem infoSIt : (Try.prog.info? 58).map (·.size) = some 10 := by kernel_rfl
theorem madeIt (n : Nat) (hn : n ≤ 1048576) (w : World) : ∃ M : Array Value, M.size = n * 10 ∧
    (Instr.makeSlice 31 (.int .i64 (n : Int)) (.int .i64 (n : Int))).run Try.prog w = .ok (.slice (some ⟨w.heap.size, 0, none⟩) n n) (w.alloc (.cells M 58)) := by
  obtain ⟨i0, hi, hz0, hz1, hz2⟩ := info_parts infoIt
  have hr := run_make (P := Try.prog) w 31 58 i0 _ Try.underlying31 hi hz0 .i64 .i64 n n (by omega) (Int.le_refl _) (by rw [hz2]; omega) (by omega)
  rw [hz1] at hr
  simp only [Int.toNat_natCast] at hr
  exact ⟨_, size_madeCells _ _, hr⟩
theorem wsIt {ops : Array Oper} {rest : List Oper} {o : Oper} {a : Act} {W : World} {Q : Exit → Act → World → Prop} (hgd : o.guard = none) (x y : Operand) (ho : o.op = .store 58 x y)
    (b off : Nat) (hx : a.eval x = .pointer (some ⟨b, off, none⟩)) (it : It) (a1 a3 : Option Addr) (n1 c1 n3 c3 : Nat) (hy : a.eval y = itV it (.slice a1 n1 c1) (.slice a3 n3 c3)) (ht : W.there b off 10)
    (h : wpList Try.prog ops Q rest (a.put o.dst undef) (W.setCells b off (itL it (.slice a1 n1 c1) (.slice a3 n3 c3)))) : wpList Try.prog ops Q (o :: rest) a W :=
  wpList_store_mid hgd 58 x y ho b off (itL it (.slice a1 n1 c1) (.slice a3 n3 c3)).toArray hx hy ht infoSIt (by simp [Value.oneCell']) h
set_option maxRecDepth 100000 in
set_option maxHeartbeats 3200000 in
theorem toItemS_any (l : List It) (hN : l.length + itX l ≤ 1048576) (v : Value) (w : World) (hr : IRow w.heap.size w l v) :
    Calls Try.prog 23 #[v] w fun x w' => x = .returned (.slice (some ⟨w.heap.size, 0, none⟩) l.length l.length) ∧ TI l w l.length w' := by
  obtain ⟨ad, cap, rfl, hc, hmx, hx⟩ := hr
  unfold maxLen at hmx
  have HX := hide hx
  have HN2 : Hid (∀ (i : Nat) (it : It), l[i]? = some it → it.cs.length ≤ 1048576 ∧ it.ps.length ≤ 1048576) := fun i it he => by
    have h1 := itX_next he
    have h2 : itX l = itX (l.take (i + 1)) + itX (l.drop (i + 1)) := by rw [← itX_app, List.take_append_drop]
    omega
  clear hx
  obtain ⟨M, hMs, hmk⟩ := madeIt l.length (by omega) w
  have HMs := hide hMs
  clear hMs
  go_enter Try.func23, Try.ntmps23
  go_wp2_with fail
  go_loopw [4] (fun iv wr => ∃ i : Nat, i ≤ l.length ∧ iv = .int .i64 i ∧ Hid (TI l w i wr)) (fun iv _ => l.length - (intOf iv).toNat)
  case atStart => exact ⟨0, by omega, rfl, hide (TI.start HMs.out)⟩
  case round =>
    obtain ⟨i, hi, rfl, HT⟩ := hrel
    by_cases hlt : i < l.length
    · obtain ⟨g, off, rfl, hg, hs⟩ := HX.out (by omega)
      obtain ⟨e, he⟩ : ∃ e, l[i]? = some e := ⟨_, List.getElem?_eq_getElem hlt⟩
      obtain ⟨vc, vp, hcl, htw⟩ := hs i e he
      obtain ⟨⟨ac, cc, hvc⟩, ⟨ap, cp, hvp⟩⟩ := two_form htw
      subst hvc hvp
      have hBw := HT.out.2
      have c0 := (hBw.cell (p := ⟨g, off + i * 10, none⟩) hg).trans (hcl 0 _ rfl)
      have c1 := (hBw.cell (p := ⟨g, off + i * 10 + 1, none⟩) hg).trans (hcl 1 _ rfl)
      have c2 := (hBw.cell (p := ⟨g, off + i * 10 + 2, none⟩) hg).trans (hcl 2 _ rfl)
      have c3 := (hBw.cell (p := ⟨g, off + i * 10 + 3, none⟩) hg).trans (hcl 3 _ rfl)
      have c4 := (hBw.cell (p := ⟨g, off + i * 10 + 4, none⟩) hg).trans (hcl 4 _ rfl)
      have c5 := (hBw.cell (p := ⟨g, off + i * 10 + 5, none⟩) hg).trans (hcl 5 _ rfl)
      have c6 := (hBw.cell (p := ⟨g, off + i * 10 + 6, none⟩) hg).trans (hcl 6 _ rfl)
      have c7 := (hBw.cell (p := ⟨g, off + i * 10 + 7, none⟩) hg).trans (hcl 7 _ rfl)
      have c8 := (hBw.cell (p := ⟨g, off + i * 10 + 8, none⟩) hg).trans (hcl 8 _ rfl)
      have c9 := (hBw.cell (p := ⟨g, off + i * 10 + 9, none⟩) hg).trans (hcl 9 _ rfl)
      have hgr : g < wr.heap.size := by have := hBw.size; omega
      have hcall := hide (toItem_any e (HN2.out i e he).1 (HN2.out i e he).2 _ _ wr ((htw.later hBw).up hBw.size))
      have HE := hide he
      have hii : (i : Int) < (l.length : Int) := by omega
      clear hs he hmk hcl htw hBw
      go_wp2_with fail
      refine hcall.out.mono ?_
      rintro x1 X1 ⟨v1, v3, rfl, hO1, hB1⟩
      obtain ⟨⟨a1, d1, hv1⟩, ⟨a3, d3, hv3⟩⟩ := own2_form hO1
      subst hv1 hv3
      have HTH := hide (HT.out.there hB1 hlt)
      have HNX := hide (HT.out.next HE.out hO1 hB1)
      clear hB1 hcall HT hO1 c0 c1 c2 c3 c4 c5 c6 c7 c8 c9 hgr
      go_wp2_with (first
        | (with_reducible show wpList _ _ _ (Oper.mk _ (Op.store 58 _ _) _ _ _ _ :: _) _ _; refine wsIt rfl (.tmp 21) (.tmp 20) rfl w.heap.size (i * 10) rfl e a1 a3 _ d1 _ d3 rfl HTH.out ?_))
      exact ⟨⟨i + 1, by omega, by go_num, HNX⟩, by simp [intOf]; omega⟩
    · have hie : i = l.length := by omega
      have HD : Hid (TI l w l.length wr) := by rw [← hie]; exact HT
      clear hie hmk
      go_wp2_with fail
      go_ret
      exact ⟨rfl, HD.out⟩
set_option maxHeartbeats 1600000 in
theorem toCache_any (l : List It) (hN : l.length + itX l ≤ 1048576) (v : Value) (w : World) (hr : IRow w.heap.size w l v) :
    Calls Try.prog 11 #[caV v] w fun x w' => (∃ a c, x = .returned (caV (.slice a l.length c)) ∧ IBlk w.heap.size w'.heap.size w' l (.slice a l.length c)) ∧ Below w.heap.size w w' := by
  have hs := hide (fun W (hW : Below w.heap.size w W) => toItemS_any l hN v W ((hr.later hW).up hW.size))
  obtain ⟨ad, cap, hv, _⟩ := hr
  subst hv
  go_enter Try.func11, Try.ntmps11
  go_wp2_with fail
  refine (hs.out _ (three_low w _ _ _).1).mono ?_
  rintro e1 w1 ⟨rfl, hT⟩
  have hD := hT.done (by omega)
  obtain ⟨bx, br, bl, hsz, hB⟩ := three_q hT.2
  have hlo := hide (three_low w (.cells #[.slice ad l.length cap] 29) (.cells #[.slice none 0 0] 33) (.cells #[.slice none 0 0] 33)).2
  have l0 := cell_of_block bl 0
  have f0 := free_of_block bl 0
  have r0 := cell_of_block br 0
  have g0 := free_of_block br 0
  simp only [List.getElem?_toArray, List.getElem?_cons_zero] at l0 r0
  rw [hlo.out] at hD
  have HD := hide hD
  have HR := hide br
  have HB := hide hB
  rw [hlo.out]
  clear hT hD bx br bl hB hs hlo
  go_wp2
  have hb8 := block_set (qset_other (v := .slice (some ⟨w.heap.size + 3, 0, none⟩) l.length l.length) (i := 0) (b := w.heap.size + 1 + 1) HR.out (by omega)) 0 (.slice (some ⟨w.heap.size + 3, 0, none⟩) l.length l.length)
  have m0 := cell_of_block hb8 0
  simp only [List.setIfInBounds_toArray, List.set_cons_zero, List.getElem?_toArray, List.getElem?_cons_zero] at m0
  have hMF : Mid (w.heap.size + 1) (w.heap.size + 3) w1 ((w1.setCell ⟨w.heap.size + 1 + 1, 0, none⟩ (.slice (some ⟨w.heap.size + 3, 0, none⟩) l.length l.length)).setCell ⟨w.heap.size + 1, 0, none⟩ (.slice (some ⟨w.heap.size + 3, 0, none⟩) l.length l.length)) := ((Mid.refl (w.heap.size + 1) (w.heap.size + 3) w1).set (by omega) (by omega)).set (by omega) (by omega)
  refine bodyPost_ret (v := caV (.slice (some ⟨w.heap.size + 3, 0, none⟩) l.length l.length)) (by simp [results, Try.results11, go_sem, m0]) rfl ?_
  exact ⟨⟨_, _, rfl, ((HD.out.up (Nat.le_refl _) hMF.size).mid hMF (.inr (Nat.le_refl _))).up (by omega) (Nat.le_refl _)⟩, HB.out.trans ((hMF.below (by omega)).mono (by omega))⟩
end Go.Proofs.Ythkklmfjdjiafaa
