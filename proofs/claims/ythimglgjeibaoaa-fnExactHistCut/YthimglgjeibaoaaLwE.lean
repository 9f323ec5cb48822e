/- Two copies of events held against each other. -/
import Derived.Test.YthimglgjeibaoaaEvL
import Derived.Test.YthimglgjeibaoaaCmd1
import Derived.Test.YthimglgjeibaoaaCame1
import Derived.Test.YthimglgjeibaoaaImE1
namespace Go.Proofs.Ythimglgjeibaoaa
open Go.RowKit
set_option linter.unusedVariables false
set_option linter.unusedSimpArgs false
set_option maxHeartbeats 800000 in
theorem eqValue_at (k n : Int) (t : ByteArray) (w : World) :
    Calls Try.prog 40 #[vAgg k n t, vAgg k n t] w fun e w' => e = .returned (.bool true) ∧ Below w.heap.size w w' := by
  go_enter Try.func40, Try.ntmps40
  go_wp2
  go_ret
  exact ⟨rfl, ((Below.refl _ _).alloc (Nat.le_refl _) _).alloc (by simp) _⟩
set_option maxHeartbeats 800000 in
theorem eqCmd_at (k : Int) (nm : ByteArray) (vk vn : Int) (vt : ByteArray) (w : World) :
    Calls Try.prog 41 #[cmdV k nm vk vn vt, cmdV k nm vk vn vt] w fun e w' => e = .returned (.bool true) ∧ Below w.heap.size w w' := by
  have hv := hide (eqValue_at vk vn vt)
  go_enter Try.func41, Try.ntmps41
  go_wp2_with fail
  refine (hv.out _).mono ?_
  rintro e w1 ⟨rfl, hB1⟩
  obtain ⟨b0, b1, hB⟩ := two_boxes hB1
  have HB := hide hB
  clear hB1 hv b0 b1 hB
  go_wp2
  go_ret
  exact ⟨rfl, HB.out⟩
set_option maxHeartbeats 800000 in
theorem eqCame_at (k p : Int) (nm : ByteArray) (o : Bool) (vk vn : Int) (vt : ByteArray) (w : World) :
    Calls Try.prog 42 #[cameV k p nm o vk vn vt, cameV k p nm o vk vn vt] w fun e w' => e = .returned (.bool true) ∧ Below w.heap.size w w' := by
  have hv := hide (eqValue_at vk vn vt)
  go_enter Try.func42, Try.ntmps42
  go_wp2_with fail
  refine (hv.out _).mono ?_
  rintro e w1 ⟨rfl, hB1⟩
  obtain ⟨b0, b1, hB⟩ := two_boxes hB1
  have HB := hide hB
  clear hB1 hv b0 b1 hB
  go_wp2
  go_ret
  exact ⟨rfl, HB.out⟩
/-- two boxes with one event -/
def B2 (w : World) (e : Ev) (X : World) : Prop := X.heap[w.heap.size]? = some (.cells (evL e).toArray 46 (0, 0)) ∧ X.heap[w.heap.size + 1]? = some (.cells (evL e).toArray 46 (0, 0)) ∧ Below w.heap.size w X
theorem B2.later {w X X1 : World} {e : Ev} (h : B2 w e X) (hB : Below X.heap.size X X1) : B2 w e X1 := by
  have l0 := (Array.getElem?_eq_some_iff.1 h.1).1
  have l1 := (Array.getElem?_eq_some_iff.1 h.2.1).1
  exact ⟨(hB.block _ l0).trans h.1, (hB.block _ l1).trans h.2.1, h.2.2.trans (hB.mono h.2.2.size)⟩
set_option maxRecDepth 100000 in
set_option maxHeartbeats 1600000 in
theorem eqEvent_at (e : Ev) (w : World) :
    Calls Try.prog 21 #[evV e, evV e] w fun x w' => x = .returned (.bool true) ∧ Below w.heap.size w w' := by
  have hv := hide (eqValue_at e.vk e.vn e.vt)
  have hcm := hide (eqCmd_at e.ck e.cn e.ak e.an e.ax)
  have hca := hide (eqCame_at e.ct e.mp e.mn e.mo e.wk e.wn e.wt)
  go_enter Try.func21, Try.ntmps21
  go_wp2_with fail
  refine (hv.out _).mono ?_
  rintro x1 X1 ⟨rfl, hB1⟩
  have HX1 : Hid (B2 w e X1) := two_boxes hB1
  clear hB1 hv
  have a4 : X1.cell? ⟨w.heap.size, 4, none⟩ = some (.int .i64 e.many) := cell_of_block HX1.out.1 4
  have b4 : X1.cell? ⟨w.heap.size + 1, 4, none⟩ = some (.int .i64 e.many) := cell_of_block HX1.out.2.1 4
  have a5 : X1.cell? ⟨w.heap.size, 5, none⟩ = some (.int .i64 e.ck) := cell_of_block HX1.out.1 5
  have b5 : X1.cell? ⟨w.heap.size + 1, 5, none⟩ = some (.int .i64 e.ck) := cell_of_block HX1.out.2.1 5
  have a6 : X1.cell? ⟨w.heap.size, 6, none⟩ = some (.string e.cn) := cell_of_block HX1.out.1 6
  have b6 : X1.cell? ⟨w.heap.size + 1, 6, none⟩ = some (.string e.cn) := cell_of_block HX1.out.2.1 6
  have a7 : X1.cell? ⟨w.heap.size, 7, none⟩ = some (.int .i64 e.ak) := cell_of_block HX1.out.1 7
  have b7 : X1.cell? ⟨w.heap.size + 1, 7, none⟩ = some (.int .i64 e.ak) := cell_of_block HX1.out.2.1 7
  have a8 : X1.cell? ⟨w.heap.size, 8, none⟩ = some (.int .i64 e.an) := cell_of_block HX1.out.1 8
  have b8 : X1.cell? ⟨w.heap.size + 1, 8, none⟩ = some (.int .i64 e.an) := cell_of_block HX1.out.2.1 8
  have a9 : X1.cell? ⟨w.heap.size, 9, none⟩ = some (.string e.ax) := cell_of_block HX1.out.1 9
  have b9 : X1.cell? ⟨w.heap.size + 1, 9, none⟩ = some (.string e.ax) := cell_of_block HX1.out.2.1 9
  go_wp2_with fail
  refine (hcm.out _).mono ?_
  rintro x2 X2 ⟨rfl, hB2⟩
  have HX2 := hide (HX1.out.later hB2)
  clear hB2 hcm HX1 a4 b4 a5 b5 a6 b6 a7 b7 a8 b8 a9 b9
  have a10 : X2.cell? ⟨w.heap.size, 10, none⟩ = some (.int .i64 e.ct) := cell_of_block HX2.out.1 10
  have b10 : X2.cell? ⟨w.heap.size + 1, 10, none⟩ = some (.int .i64 e.ct) := cell_of_block HX2.out.2.1 10
  have a11 : X2.cell? ⟨w.heap.size, 11, none⟩ = some (.int .i64 e.mp) := cell_of_block HX2.out.1 11
  have b11 : X2.cell? ⟨w.heap.size + 1, 11, none⟩ = some (.int .i64 e.mp) := cell_of_block HX2.out.2.1 11
  have a12 : X2.cell? ⟨w.heap.size, 12, none⟩ = some (.string e.mn) := cell_of_block HX2.out.1 12
  have b12 : X2.cell? ⟨w.heap.size + 1, 12, none⟩ = some (.string e.mn) := cell_of_block HX2.out.2.1 12
  have a13 : X2.cell? ⟨w.heap.size, 13, none⟩ = some (.bool e.mo) := cell_of_block HX2.out.1 13
  have b13 : X2.cell? ⟨w.heap.size + 1, 13, none⟩ = some (.bool e.mo) := cell_of_block HX2.out.2.1 13
  have a14 : X2.cell? ⟨w.heap.size, 14, none⟩ = some (.int .i64 e.wk) := cell_of_block HX2.out.1 14
  have b14 : X2.cell? ⟨w.heap.size + 1, 14, none⟩ = some (.int .i64 e.wk) := cell_of_block HX2.out.2.1 14
  have a15 : X2.cell? ⟨w.heap.size, 15, none⟩ = some (.int .i64 e.wn) := cell_of_block HX2.out.1 15
  have b15 : X2.cell? ⟨w.heap.size + 1, 15, none⟩ = some (.int .i64 e.wn) := cell_of_block HX2.out.2.1 15
  have a16 : X2.cell? ⟨w.heap.size, 16, none⟩ = some (.string e.wt) := cell_of_block HX2.out.1 16
  have b16 : X2.cell? ⟨w.heap.size + 1, 16, none⟩ = some (.string e.wt) := cell_of_block HX2.out.2.1 16
  go_wp2_with fail
  refine (hca.out _).mono ?_
  rintro x3 X3 ⟨rfl, hB3⟩
  have HX3 := hide (HX2.out.later hB3)
  clear hB3 hca HX2 a10 b10 a11 b11 a12 b12 a13 b13 a14 b14 a15 b15 a16 b16
  go_wp2_with fail
  go_ret
  exact ⟨rfl, HX3.out.2.2⟩
set_option maxRecDepth 100000 in
set_option maxHeartbeats 1600000 in
theorem eqEventS_any (l : List Ev) (hN : l.length ≤ 1048576) (va vb : Value) (w : World) (ha : EvRow w l va) (hb : EvRow w l vb) :
    Calls Try.prog 8 #[va, vb] w fun x w' => x = .returned (.bool true) ∧ Below w.heap.size w w' := by
  obtain ⟨aa, ca, rfl, hca, hma, hxa⟩ := ha
  obtain ⟨ab, cb, rfl, hcb, hmb, hxb⟩ := hb
  unfold maxLen at hma hmb
  have HXA := hide hxa
  have HXB := hide hxb
  clear hxa hxb
  have hne : ((l.length : Int) != (l.length : Int)) = false := by simp
  go_enter Try.func8, Try.ntmps8
  go_wp2_with fail
  go_loopw [5] (fun iv wr => ∃ i : Nat, i ≤ l.length ∧ iv = .int .i64 i ∧ Hid (Below w.heap.size w wr)) (fun iv _ => l.length - (intOf iv).toNat)
  case atStart => exact ⟨0, by omega, rfl, Below.refl _ _⟩
  case round =>
    obtain ⟨i, hi, rfl, HB⟩ := hrel
    by_cases hlt : i < l.length
    · obtain ⟨ga, oa, rfl, hga, hsa⟩ := HXA.out (by omega)
      obtain ⟨gb, ob, rfl, hgb, hsb⟩ := HXB.out (by omega)
      obtain ⟨e, he⟩ : ∃ e, l[i]? = some e := ⟨_, List.getElem?_eq_getElem hlt⟩
      have HA := hide ((hsa i e he).later HB.out hga)
      have HBt := hide ((hsb i e he).later HB.out hgb)
      have HGA : Hid (ga < wr.heap.size) := by show _ < _; have := HB.out.size; omega
      have HGB : Hid (gb < wr.heap.size) := by show _ < _; have := HB.out.size; omega
      have heq := hide (eqEvent_at e)
      have hii : (i : Int) < (l.length : Int) := by omega
      clear hsa hsb he hne
      go_wp2_with fail
      refine wp_region_noPanic ?_
      refine wp_region_held_drew (S := fun W => Below wr.heap.size wr W) (by kernel_rfl) (below_drew' (Below.refl _ _)) (fun hHeld => ?_)
      refine wpAnyH_take (i := 0) (oi := Oper.mk (some 17) _ _ _ _ _) (v := ?_) rfl (by kernel_rfl) (by kernel_rfl) (by kernel_rfl) (fun _ _ _ h => h) (Or.inl ⟨by rfl, ?_⟩) (by assumption) ?_
      rotate_left
      · intro w0 hSw
        clear hSw
        go_simp
        all_goals (with_reducible rfl)
      simp only [Act.put, List.setIfInBounds_toArray, List.set_cons_zero, List.set_cons_succ]
      refine wpAnyH_take (i := 1) (oi := Oper.mk (some 18) _ _ _ _ _) (v := ?_) rfl (by kernel_rfl) (by kernel_rfl) (by kernel_rfl) (fun _ _ _ h => h) (Or.inl ⟨by rfl, ?_⟩) (by assumption) ?_
      rotate_left
      · intro w0 hSw
        clear hSw
        go_simp
        all_goals (with_reducible rfl)
      simp only [Act.put, List.setIfInBounds_toArray, List.set_cons_zero, List.set_cons_succ]
      refine wpAnyH_take (i := 2) (oi := Oper.mk (some 19) _ _ _ _ _) (v := ?_) rfl (by kernel_rfl) (by kernel_rfl) (by kernel_rfl) (fun _ _ _ h => h) (Or.inl ⟨by rfl, ?_⟩) (by assumption) ?_
      rotate_left
      · intro w0 hSw
        clear hSw
        go_simp
        all_goals (with_reducible rfl)
      simp only [Act.put, List.setIfInBounds_toArray, List.set_cons_zero, List.set_cons_succ]
      refine wpAnyH_take (i := 3) (oi := Oper.mk (some 20) _ _ _ _ _) (v := evV e) rfl (by kernel_rfl) (by kernel_rfl) (by kernel_rfl) (fun _ _ _ h => h) (yieldsIf_load_mid (by rfl) 46 (.tmp 19) rfl ga (oa + i * 17) rfl (evL e) _ (fun W hW => HA.out.later hW HGA.out) Try.underlying46 rfl (by rw [infoEv]; rfl)) (by assumption) ?_
      simp only [Act.put, List.setIfInBounds_toArray, List.set_cons_zero, List.set_cons_succ]
      refine wpAnyH_take (i := 4) (oi := Oper.mk (some 21) _ _ _ _ _) (v := ?_) rfl (by kernel_rfl) (by kernel_rfl) (by kernel_rfl) (fun _ _ _ h => h) (Or.inl ⟨by rfl, ?_⟩) (by assumption) ?_
      rotate_left
      · intro w0 hSw
        clear hSw
        go_simp
        all_goals (with_reducible rfl)
      simp only [Act.put, List.setIfInBounds_toArray, List.set_cons_zero, List.set_cons_succ]
      refine wpAnyH_take (i := 5) (oi := Oper.mk (some 22) _ _ _ _ _) (v := ?_) rfl (by kernel_rfl) (by kernel_rfl) (by kernel_rfl) (fun _ _ _ h => h) (Or.inl ⟨by rfl, ?_⟩) (by assumption) ?_
      rotate_left
      · intro w0 hSw
        clear hSw
        go_simp
        all_goals (with_reducible rfl)
      simp only [Act.put, List.setIfInBounds_toArray, List.set_cons_zero, List.set_cons_succ]
      refine wpAnyH_take (i := 6) (oi := Oper.mk (some 23) _ _ _ _ _) (v := ?_) rfl (by kernel_rfl) (by kernel_rfl) (by kernel_rfl) (fun _ _ _ h => h) (Or.inl ⟨by rfl, ?_⟩) (by assumption) ?_
      rotate_left
      · intro w0 hSw
        clear hSw
        go_simp
        all_goals (with_reducible rfl)
      simp only [Act.put, List.setIfInBounds_toArray, List.set_cons_zero, List.set_cons_succ]
      refine wpAnyH_take (i := 7) (oi := Oper.mk (some 24) _ _ _ _ _) (v := evV e) rfl (by kernel_rfl) (by kernel_rfl) (by kernel_rfl) (fun _ _ _ h => h) (yieldsIf_load_mid (by rfl) 46 (.tmp 23) rfl gb (ob + i * 17) rfl (evL e) _ (fun W hW => HBt.out.later hW HGB.out) Try.underlying46 rfl (by rw [infoEv]; rfl)) (by assumption) ?_
      simp only [Act.put, List.setIfInBounds_toArray, List.set_cons_zero, List.set_cons_succ]
      refine wpAnyH_ready (rs := [8]) (by kernel_rfl) (by simp) ?_
      refine AllReadyH.cons (o := Oper.mk (some 25) _ _ _ _ _) rfl (fun K hK => ?_) AllReadyH.nil
      go_simp
      go_at_call 21
      refine (heq.out _).mono ?_
      rintro x0 w0 ⟨rfl, hB0⟩
      have hHeld' := Below.trans hHeld (hB0.mono hHeld.size)
      clear hB0 hHeld
      go_wp2_with fail
      refine hK.out _ _ hHeld' (fun hHeld => ?_)
      clear hK K hHeld'
      (try simp only [Act.put, List.setIfInBounds_toArray, List.set_cons_zero, List.set_cons_succ])
      refine wpAnyH_take (i := 9) (oi := Oper.mk (some 26) _ _ _ _ _) (v := ?_) rfl (by kernel_rfl) (by kernel_rfl) (by kernel_rfl) (fun _ _ _ h => h) (Or.inl ⟨by rfl, ?_⟩) (by assumption) ?_
      rotate_left
      · intro w0 hSw
        clear hSw
        go_simp
        all_goals (with_reducible rfl)
      simp only [Act.put, List.setIfInBounds_toArray, List.set_cons_zero, List.set_cons_succ]
      refine wpAnyH_done (by kernel_rfl) ?_ _
      refine NoPanic.normal ?_
      have HB2 := hide (HB.out.trans (hHeld.mono HB.out.size))
      clear hHeld
      go_wp2_with fail
      go_roundw
      case rel => exact ⟨i + 1, by omega, by go_num, HB2⟩
      case measure => simp [intOf]; omega
    · go_wp2_with fail
      go_ret
      exact ⟨rfl, HB.out⟩
end Go.Proofs.Ythimglgjeibaoaa
