/- What the program knows with one more event, as it reckons it. -/
import Derived.Test.YthimglgjeibaoaaImE1
import Derived.Test.YthimglgjeibaoaaImE2
import Derived.Test.YthimglgjeibaoaaImE3
import Derived.Test.YthimglgjeibaoaaImE4
import Derived.Test.YthimglgjeibaoaaImE5
import Derived.Test.YthimglgjeibaoaaImT
import Derived.Test.YthimglgjeibaoaaImC
import Derived.Test.YthimglgjeibaoaaImM
namespace Go.Proofs.Ythimglgjeibaoaa
open Go.RowKit
set_option linter.unusedVariables false
set_option linter.unusedSimpArgs false
theorem fits_any (e : Ev) (hw : e.Wf) (w : World) :
    Calls Try.prog 34 #[evV e] w fun x w' => x = .returned (.bool (Pl.evB e)) ∧ Below w.heap.size w w' := by
  by_cases k1 : e.k = 1
  · exact fits_1 e hw k1 w
  · by_cases k2 : e.k = 2
    · exact fits_2 e hw k2 w
    · by_cases k3 : e.k = 3
      · exact fits_3 e hw k3 w
      · by_cases k4 : e.k = 4
        · exact fits_4 e hw k4 w
        · by_cases k5 : e.k = 5
          · exact fits_5 e k5 w
          · exact fits_0 e (by omega) w
/-- three boxes: what is known, the event, what is handed back -/
def B3 (w : World) (C : Array Value) (e : Ev) (X : World) : Prop :=
  X.heap[w.heap.size]? = some (.cells C 50 (0, 0)) ∧ X.heap[w.heap.size + 1]? = some (.cells (evL e).toArray 46 (0, 0)) ∧ (∃ Z, X.heap[w.heap.size + 1 + 1]? = some (.cells Z 50 (0, 0)) ∧ Z.size = 47) ∧ Below w.heap.size w X
theorem B3.later {w X X1 : World} {C : Array Value} {e : Ev} (h : B3 w C e X) (hB : Below X.heap.size X X1) : B3 w C e X1 := by
  obtain ⟨h0, h1, ⟨Z, h2, hZ⟩, hb⟩ := h
  have l0 := (Array.getElem?_eq_some_iff.1 h0).1
  have l1 := (Array.getElem?_eq_some_iff.1 h1).1
  have l2 := (Array.getElem?_eq_some_iff.1 h2).1
  exact ⟨(hB.block _ l0).trans h0, (hB.block _ l1).trans h1, ⟨Z, (hB.block _ l2).trans h2, hZ⟩, hb.trans (hB.mono hb.size)⟩
theorem B3.set {w X : World} {C : Array Value} {e : Ev} (h : B3 w C e X) (i : Nat) (v : Value) : B3 w (C.setIfInBounds i v) e (X.setCell ⟨w.heap.size, i, none⟩ v) := by
  obtain ⟨h0, h1, ⟨Z, h2, hZ⟩, hb⟩ := h
  exact ⟨block_set h0 i v, (Below.heap_setCell _ _ _ _ (by simp only; omega)).trans h1, ⟨Z, (Below.heap_setCell _ _ _ _ (by simp only; omega)).trans h2, hZ⟩, hb.setCell (by simp only; omega) _⟩

set_option maxRecDepth 100000 in
set_option maxHeartbeats 3200000 in
theorem with_stop (h : Pl.Past) (hz : h.opn.length = 40) (e : Ev) (hw : e.Wf) (w : World) (hstop : Pl.stopB Pl.evB h e = true) :
    Calls Try.prog 18 #[pastV h, evV e] w fun x w' => x = .returned (.tuple #[pastV (Pl.pwith Pl.evB h e).1, .bool (Pl.pwith Pl.evB h e).2]) ∧ Below w.heap.size w w' := by
  have HP : Hid (Pl.pwith Pl.evB h e = (h, false)) := by show _ = _; simp [Pl.pwith, hstop]
  rw [HP.out]
  unfold pastV
  have hs := hide (pastC_ok h hz)
  have c0 := pastC_0 h
  have c4 := pastC_4 h
  have c46 := pastC_46 h hz
  have hfit := hide (fits_any e hw)
  have HS := hide hstop
  unfold Pl.stopB at HS
  clear hstop hw hz
  generalize pastC h = C at *
  generalize Pl.evB e = fe at *
  generalize hov : h.over = ov at *
  generalize hev : (h.events == 0) = b1 at *
  generalize hdu : decide (0 < h.due) = b2 at *
  generalize hk1 : (e.k == 1) = k1 at *
  generalize hk3 : (e.k == 3) = k3 at *
  generalize h.events = ev at *
  generalize h.due = du at *
  cases ov
  · cases fe
    · go_enter Try.func18, Try.ntmps18
      go_wp2_with fail
      go_quiet (fail)
      refine gen_exit (fun X => Hid (B3 w C e X)) ⟨by simp only [World.heap_drewN]; exact top3 _ _ _ _, by simp only [World.heap_drewN]; exact top3' _ _ _ _, ⟨_, by simp only [World.heap_drewN]; exact top3'' _ _ _ _, rfl⟩, below_drewN' (bel3 _ _ _ _) _⟩ ?_
      intro X HX
      have x46 : X.cell? ⟨w.heap.size, 46, none⟩ = some (.bool false) := (cell_of_block HX.out.1 46).trans c46
      have HBE := hide HX.out.2.1
      go_wp2_with (first
       | (with_reducible show wpList _ _ _ (Oper.mk _ (Op.load 46 _) _ _ _ _ :: _) _ _; refine we_load rfl (.tmp 3) rfl (w.heap.size + 1) rfl _ HBE.out (evL_ok e) ?_)
       | fail)
      refine (hfit.out _).mono ?_
      rintro x1 X1 ⟨rfl, hB1⟩
      have HX1 := hide (HX.out.later hB1)
      clear hB1 HX x46 HBE
      have k0 : X1.cell? ⟨w.heap.size + 1, 0, none⟩ = some (.int .i64 e.k) := cell_of_block HX1.out.2.1 0
      obtain ⟨Z, hZ2, hZ⟩ := HX1.out.2.2.1
      have HBK := hide HX1.out.1
      go_wp2_with (first
       | (with_reducible show wpList _ _ _ (Oper.mk _ (Op.load 50 _) _ _ _ _ :: _) _ _; refine wl61 rfl (.tmp 2) rfl w.heap.size rfl _ HBK.out hs.out ?_)
       | (with_reducible show wpList _ _ _ (Oper.mk _ (Op.store 50 _ _) _ _ _ _ :: _) _ _; refine ws61 rfl (.tmp 4) (.tmp 35) rfl (w.heap.size + 1 + 1) rfl _ rfl _ hZ2 hZ hs.out ?_; intro W9 hW9))
      refine bodyPost_ret (results_past Try.results18 _ W9 (w.heap.size + 1 + 1) C rfl (by rw [hW9.out]; exact setRow_heap _ _ _ _ _ _ hZ2) hs.out) rfl ⟨?_, ?_⟩
      · rfl
      · rw [hW9.out]; exact below_setRow HX1.out.2.2.2 (by omega) _
    · have hmis : ((b1 != k1) || (b2 != k3)) = true := by simpa using HS.out
      cases b1 <;> cases k1 <;> cases b2 <;> cases k3
      all_goals first | (exact absurd hmis (by decide)) | skip
      all_goals
        clear hmis
        go_enter Try.func18, Try.ntmps18
        go_wp2_with fail
        go_quiet (fail)
        refine gen_exit (fun X => Hid (B3 w C e X)) ⟨by simp only [World.heap_drewN]; exact top3 _ _ _ _, by simp only [World.heap_drewN]; exact top3' _ _ _ _, ⟨_, by simp only [World.heap_drewN]; exact top3'' _ _ _ _, rfl⟩, below_drewN' (bel3 _ _ _ _) _⟩ ?_
        intro X HX
        have x46 : X.cell? ⟨w.heap.size, 46, none⟩ = some (.bool false) := (cell_of_block HX.out.1 46).trans c46
        have HBE := hide HX.out.2.1
        go_wp2_with (first
         | (with_reducible show wpList _ _ _ (Oper.mk _ (Op.load 46 _) _ _ _ _ :: _) _ _; refine we_load rfl (.tmp 3) rfl (w.heap.size + 1) rfl _ HBE.out (evL_ok e) ?_)
         | fail)
        refine (hfit.out _).mono ?_
        rintro x1 X1 ⟨rfl, hB1⟩
        have HX1 := hide (HX.out.later hB1)
        clear hB1 HX x46 HBE
        have k0 : X1.cell? ⟨w.heap.size + 1, 0, none⟩ = some (.int .i64 e.k) := cell_of_block HX1.out.2.1 0
        obtain ⟨Z, hZ2, hZ⟩ := HX1.out.2.2.1
        have HBK := hide HX1.out.1
        go_wp2_with (first
         | (with_reducible show wpList _ _ _ (Oper.mk _ (Op.load 50 _) _ _ _ _ :: _) _ _; refine wl61 rfl (.tmp 2) rfl w.heap.size rfl _ HBK.out hs.out ?_)
         | (with_reducible show wpList _ _ _ (Oper.mk _ (Op.store 50 _ _) _ _ _ _ :: _) _ _; refine ws61 rfl (.tmp 4) (.tmp 35) rfl (w.heap.size + 1 + 1) rfl _ rfl _ hZ2 hZ hs.out ?_; intro W9 hW9))
        refine bodyPost_ret (results_past Try.results18 _ W9 (w.heap.size + 1 + 1) C rfl (by rw [hW9.out]; exact setRow_heap _ _ _ _ _ _ hZ2) hs.out) rfl ⟨?_, ?_⟩
        · rfl
        · rw [hW9.out]; exact below_setRow HX1.out.2.2.2 (by omega) _
  · go_enter Try.func18, Try.ntmps18
    go_wp2_with fail
    go_quiet (fail)
    refine gen_exit (fun X => Hid (B3 w C e X)) ⟨by simp only [World.heap_drewN]; exact top3 _ _ _ _, by simp only [World.heap_drewN]; exact top3' _ _ _ _, ⟨_, by simp only [World.heap_drewN]; exact top3'' _ _ _ _, rfl⟩, below_drewN' (bel3 _ _ _ _) _⟩ ?_
    intro X HX
    have x46 : X.cell? ⟨w.heap.size, 46, none⟩ = some (.bool true) := (cell_of_block HX.out.1 46).trans c46
    obtain ⟨Z, hZ2, hZ⟩ := HX.out.2.2.1
    have HBK := hide HX.out.1
    go_wp2_with (first
     | (with_reducible show wpList _ _ _ (Oper.mk _ (Op.load 50 _) _ _ _ _ :: _) _ _; refine wl61 rfl (.tmp 2) rfl w.heap.size rfl _ HBK.out hs.out ?_)
     | (with_reducible show wpList _ _ _ (Oper.mk _ (Op.store 50 _ _) _ _ _ _ :: _) _ _; refine ws61 rfl (.tmp 4) (.tmp 35) rfl (w.heap.size + 1 + 1) rfl _ rfl _ hZ2 hZ hs.out ?_; intro W9 hW9))
    refine bodyPost_ret (results_past Try.results18 _ W9 (w.heap.size + 1 + 1) C rfl (by rw [hW9.out]; exact setRow_heap _ _ _ _ _ _ hZ2) hs.out) rfl ⟨?_, ?_⟩
    · rfl
    · rw [hW9.out]; exact below_setRow HX.out.2.2.2 (by omega) _
end Go.Proofs.Ythimglgjeibaoaa
