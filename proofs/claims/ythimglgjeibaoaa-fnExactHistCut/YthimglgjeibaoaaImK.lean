/- What the program knows of all events: the walker. -/
import Derived.Test.YthimglgjeibaoaaImW
namespace Go.Proofs.Ythimglgjeibaoaa
open Go.RowKit
set_option linter.unusedVariables false
set_option linter.unusedSimpArgs false
theorem we_mid {ops : Array Oper} {rest : List Oper} {o : Oper} {a : Act} {W : World} {Q : Exit → Act → World → Prop} (hgd : o.guard = none) (x : Operand) (ho : o.op = .load 46 x)
    (g off : Nat) (hx : a.eval x = .pointer (some ⟨g, off, none⟩)) (e : Ev) (hc : EvAt W g off e)
    (h : wpList Try.prog ops Q rest (a.put o.dst (evV e)) W) : wpList Try.prog ops Q (o :: rest) a W :=
  wpList_load_mid hgd 46 x ho g off hx (evL e) _ hc Try.underlying46 rfl (by rw [infoEv]; rfl) h
theorem alloc_keeps {w : World} {b : Nat} {x o : Obj} (h : w.heap[b]? = some x) : (w.alloc o).heap[b]? = some x := by
  have hl := (Array.getElem?_eq_some_iff.1 h).1
  rw [heap_alloc_at, if_neg (by omega)]
  exact h
theorem top1 (w : World) (o : Obj) : (w.alloc o).heap[w.heap.size]? = some o := by rw [heap_alloc_at, if_pos rfl]
/-- what is known, whole, into the block that was made last -/
theorem ws61top {ops : Array Oper} {rest : List Oper} {o : Oper} {a : Act} {V : World} {Z : Array Value} {Q : Exit → Act → World → Prop} (hgd : o.guard = none) (x y : Operand) (ho : o.op = .store 50 x y)
    (hx : a.eval x = .pointer (some ⟨V.heap.size, 0, none⟩)) (cs : Array Value) (hy : a.eval y = .agg cs) (hz : Z.size = 47) (hs : Okc cs)
    (h : wpList Try.prog ops Q rest (a.put o.dst undef) (V.alloc (.cells cs 50))) : wpList Try.prog ops Q (o :: rest) a (V.alloc (.cells Z 50)) :=
  wpList_plain hgd fun K hK => by
    refine wp_store_row 50 x y ho V.heap.size cs hx hy 50 Z (by rw [heap_alloc_at, if_pos rfl]) (by rw [infoPast, hs.1]) (by rw [hz, hs.1]) hs.2 ?_
    rw [setRow_new]
    exact hK _ _ h
theorem wk_x1 {w wr X1 : World} {b : Nat} {x o : Obj} (h0 : wr.heap[b]? = some x) (hB1 : Below (wr.alloc o).heap.size (wr.alloc o) X1) : X1.heap[b]? = some x := by
  have h := alloc_keeps (o := o) h0
  exact (hB1.block _ (Array.getElem?_eq_some_iff.1 h).1).trans h
theorem wk_w9 {w wr X1 W9 : World} {C C' Z : Array Value} {o : Obj} (h0 : wr.heap[w.heap.size]? = some (.cells C 50 (0, 0))) (h1 : wr.heap[w.heap.size + 1]? = some (.cells Z 50 (0, 0))) (hB : Below w.heap.size w wr) (hB1 : Below (wr.alloc o).heap.size (wr.alloc o) X1)
    (hW9 : W9 = (X1.alloc (.cells C' 50)).setRow w.heap.size C') : W9.heap[w.heap.size]? = some (.cells C' 50 (0, 0)) ∧ W9.heap[w.heap.size + 1]? = some (.cells Z 50 (0, 0)) ∧ Below w.heap.size w W9 := by
  subst hW9
  refine ⟨setRow_heap _ _ _ _ _ _ (alloc_keeps (wk_x1 (w := w) h0 hB1)), (setRow_other _ _ _ _ (by omega)).trans (alloc_keeps (wk_x1 (w := w) h1 hB1)), ?_⟩
  have hz := hB.size
  have e1 : (wr.alloc o).heap.size = wr.heap.size + 1 := by simp
  have hz1 := hB1.size
  exact below_setRow ((((hB.alloc (by omega) o).trans (hB1.mono (by omega)))).alloc (by omega) _) (by omega) _
/-- where the walker stands -/
def WkRel (h : Pl.Past) (l : List Ev) (n : Nat) (w : World) (i : Nat) (wr : World) : Prop :=
  ∃ hc : Pl.Past, wr.heap[w.heap.size]? = some (.cells (pastC hc) 50 (0, 0)) ∧ (∃ Z, wr.heap[w.heap.size + 1]? = some (.cells Z 50 (0, 0)) ∧ Z.size = 47) ∧ Below w.heap.size w wr ∧ Pl.walkP Pl.evB h l = Pl.walkP Pl.evB hc (l.drop i) ∧ Inv (n + i) hc
abbrev withV : Value := .func (.func 18) #[] #[]
set_option maxRecDepth 100000 in
set_option maxHeartbeats 3200000 in
theorem walk_any (l : List Ev) (hwf : ∀ e ∈ l, e.Wf) (h : Pl.Past) (n : Nat) (I : Inv n h) (hn : n + l.length ≤ 1000000) (v : Value) (w : World) (hr : EvRow w l v) :
    Calls Try.prog 16 #[v, pastV h, withV] w fun x w' => x = .returned (.tuple #[pastV (Pl.walkP Pl.evB h l).1, .bool (Pl.walkP Pl.evB h l).2]) ∧ Below w.heap.size w w' := by
  obtain ⟨ad, cap, rfl, hc, hmx, hx⟩ := hr
  unfold maxLen at hmx
  have HX := hide hx
  have HW := hide hwf
  have HI := hide I
  clear hx hwf I
  unfold pastV
  go_enter Try.func16, Try.ntmps16
  go_wp2_with fail
  go_loopw [14] (fun iv wr => ∃ i : Nat, i ≤ l.length ∧ iv = .int .i64 i ∧ Hid (WkRel h l n w i wr)) (fun iv _ => l.length - (intOf iv).toNat)
  case atStart =>
    exact ⟨0, by omega, rfl, h, top2 _ _ _, ⟨_, top2' _ _ _, rfl⟩, ((Below.refl _ _).alloc (Nat.le_refl _) _).alloc (by simp) _, by simp, by simpa using HI.out⟩
  case round =>
    obtain ⟨i, hi, rfl, HR⟩ := hrel
    obtain ⟨hcur, hb0, ⟨Z, hb1, hZ⟩, hB, hwk, hI⟩ := HR.out
    have hok := hide (pastC_ok hcur hI.size)
    by_cases hlt : i < l.length
    · obtain ⟨g, off, rfl, hg, hs⟩ := HX.out (by omega)
      obtain ⟨e, he⟩ : ∃ e, l[i]? = some e := ⟨_, List.getElem?_eq_getElem hlt⟩
      have HAT := hide ((hs i e he).later hB hg)
      have hcall := hide (with_any hcur hI (by omega) e (HW.out e (List.mem_of_getElem? he)))
      unfold pastV at hcall
      have HNX := hide (fun hq => hI.next e hq)
      have HWK : Hid (Pl.walkP Pl.evB h l = if (Pl.pwith Pl.evB hcur e).2 = true then Pl.walkP Pl.evB (Pl.pwith Pl.evB hcur e).1 (l.drop (i + 1)) else ((Pl.pwith Pl.evB hcur e).1, false)) := by
        show _ = _
        rw [hwk]
        have hd : l.drop i = e :: l.drop (i + 1) := by
          have := List.drop_eq_getElem_cons hlt
          rw [this]
          congr 1
          have h2 := List.getElem?_eq_getElem hlt
          rw [he] at h2
          exact (Option.some.inj h2).symm
        rw [hd]
        rfl
      have hz' : (Pl.pwith Pl.evB hcur e).1.opn.length = 40 := by
        unfold Pl.pwith
        have hz := hI.size
        split
        · exact hz
        · split
          · exact hz
          · split
            · simp [Pl.withCmd, hz]
            · split
              · unfold Pl.withCame; split <;> simp [hz]
              · exact hz
      have hok' := hide (pastC_ok _ hz')
      generalize hP1 : (Pl.pwith Pl.evB hcur e).1 = hnew at *
      generalize hP2 : (Pl.pwith Pl.evB hcur e).2 = okb at *
      have HB0 := hide hb0
      have HB1 := hide hb1
      have HBB := hide hB
      have HZ := hide hZ
      generalize pastC hcur = C at *
      generalize hCn : pastC hnew = Cn at *
      clear hs he hb0 hb1 hB hwk hI hZ HR hz'
      have hii : (i : Int) < (l.length : Int) := by omega
      go_wp2_with (first
        | (with_reducible show wpList _ _ _ (Oper.mk _ (Op.load 46 (.tmp 16)) _ _ _ _ :: _) _ _; refine we_mid rfl (.tmp 16) rfl g (off + i * 17) rfl e HAT.out ?_)
        | (with_reducible show wpList _ _ _ (Oper.mk _ (Op.store 46 _ _) _ _ _ _ :: _) _ _; refine we_store rfl (.tmp 9) (.tmp 17) rfl wr.heap.size rfl _ rfl rfl rfl (evL_ok e) ?_)
        | (with_reducible show wpList _ _ _ (Oper.mk _ (Op.load 50 _) _ _ _ _ :: _) _ _; refine wl61 rfl (.tmp 4) rfl w.heap.size rfl _ (alloc_keeps HB0.out) hok.out ?_)
        | (with_reducible show wpList _ _ _ (Oper.mk _ (Op.load 46 (.tmp 9)) _ _ _ _ :: _) _ _; refine we_load rfl (.tmp 9) rfl wr.heap.size rfl _ (top1 _ _) (evL_ok e) ?_))
      refine (hcall.out _).mono ?_
      rintro x1 X1 ⟨rfl, hB1⟩
      have HX0 := hide (wk_x1 (w := w) HB0.out hB1)
      have HOS := hide hok.out.1
      have H9 : Hid (∀ W9, Hid (W9 = (X1.alloc (.cells Cn 50)).setRow w.heap.size Cn) → W9.heap[w.heap.size]? = some (.cells Cn 50 (0, 0)) ∧ W9.heap[w.heap.size + 1]? = some (.cells Z 50 (0, 0)) ∧ Below w.heap.size w W9) := fun W9 hW9 => wk_w9 HB0.out HB1.out HBB.out hB1 hW9
      clear hcall hB1 HB0 HB1 HBB HAT
      cases okb
      · go_wp2_with (first
          | (with_reducible show wpList _ _ _ (Oper.mk _ (Op.store 50 (.tmp 10) _) _ _ _ _ :: _) _ _; refine ws61top rfl (.tmp 10) (.tmp 23) rfl rfl _ rfl rfl hok'.out ?_)
          | (with_reducible show wpList _ _ _ (Oper.mk _ (Op.load 50 (.tmp 10)) _ _ _ _ :: _) _ _; refine wl61 rfl (.tmp 10) rfl X1.heap.size rfl _ (top1 _ _) hok'.out ?_)
          | (with_reducible show wpList _ _ _ (Oper.mk _ (Op.store 50 (.tmp 4) _) _ _ _ _ :: _) _ _; refine ws61 rfl (.tmp 4) (.tmp 25) rfl w.heap.size rfl _ rfl _ (alloc_keeps HX0.out) HOS.out hok'.out ?_; intro W9 hW9; have HW9 := hide (H9.out W9 hW9))
          | (with_reducible show wpList _ _ _ (Oper.mk _ (Op.load 50 (.tmp 4)) _ _ _ _ :: _) _ _; refine wl61 rfl (.tmp 4) rfl w.heap.size rfl _ HW9.out.1 hok'.out ?_)
          | (with_reducible show wpList _ _ _ (Oper.mk _ (Op.store 50 (.tmp 6) _) _ _ _ _ :: _) _ _; refine ws61 rfl (.tmp 6) (.tmp 28) rfl (w.heap.size + 1) rfl _ rfl _ HW9.out.2.1 HZ.out hok'.out ?_; intro W10 hW10))
        refine bodyPost_ret (results_past Try.results16 _ W10 (w.heap.size + 1) Cn rfl (by rw [hW10.out]; exact setRow_heap _ _ _ _ _ _ HW9.out.2.1) hok'.out) rfl ⟨?_, ?_⟩
        · rw [HWK.out, ← hCn]; rfl
        · rw [hW10.out]; exact below_setRow HW9.out.2.2 (by omega) _
      · go_wp2_with (first
          | (with_reducible show wpList _ _ _ (Oper.mk _ (Op.store 50 (.tmp 10) _) _ _ _ _ :: _) _ _; refine ws61top rfl (.tmp 10) (.tmp 23) rfl rfl _ rfl rfl hok'.out ?_)
          | (with_reducible show wpList _ _ _ (Oper.mk _ (Op.load 50 (.tmp 10)) _ _ _ _ :: _) _ _; refine wl61 rfl (.tmp 10) rfl X1.heap.size rfl _ (top1 _ _) hok'.out ?_)
          | (with_reducible show wpList _ _ _ (Oper.mk _ (Op.store 50 (.tmp 4) _) _ _ _ _ :: _) _ _; refine ws61 rfl (.tmp 4) (.tmp 25) rfl w.heap.size rfl _ rfl _ (alloc_keeps HX0.out) HOS.out hok'.out ?_; intro W9 hW9; have HW9 := hide (H9.out W9 hW9)))
        go_roundw
        case rel => exact ⟨i + 1, by omega, by go_num, hnew, by rw [hCn]; exact HW9.out.1, ⟨Z, HW9.out.2.1, HZ.out⟩, HW9.out.2.2, by rw [HWK.out]; simp, HNX.out (by first | trivial | rfl)⟩
        case measure => simp [intOf]; omega
    · have hie : i = l.length := by omega
      have HE : Hid (Pl.walkP Pl.evB h l = (hcur, true)) := by
        show _ = _
        rw [hwk, hie, List.drop_length]
        rfl
      have HB0 := hide hb0
      have HB1 := hide hb1
      have HBB := hide hB
      have HZ := hide hZ
      generalize hCc : pastC hcur = C at *
      clear hb0 hb1 hB hZ hwk hI HR hie
      go_wp2_with (first
        | (with_reducible show wpList _ _ _ (Oper.mk _ (Op.load 50 _) _ _ _ _ :: _) _ _; refine wl61 rfl (.tmp 4) rfl w.heap.size rfl _ HB0.out hok.out ?_)
        | (with_reducible show wpList _ _ _ (Oper.mk _ (Op.store 50 _ _) _ _ _ _ :: _) _ _; refine ws61 rfl (.tmp 6) (.tmp 30) rfl (w.heap.size + 1) rfl _ rfl _ HB1.out HZ.out hok.out ?_; intro W10 hW10))
      refine bodyPost_ret (results_past Try.results16 _ W10 (w.heap.size + 1) C rfl (by rw [hW10.out]; exact setRow_heap _ _ _ _ _ _ HB1.out) hok.out) rfl ⟨?_, ?_⟩
      · rw [HE.out, ← hCc]; rfl
      · rw [hW10.out]; exact below_setRow HBB.out (by omega) _
end Go.Proofs.Ythimglgjeibaoaa
