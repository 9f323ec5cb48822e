/- What the program knows with one more thing that came, as it reckons it. -/
import Derived.Test.YthimglgjeibaoaaPaM
import Derived.Test.YthimglgjeibaoaaCmd1
import Derived.Test.YthimglgjeibaoaaCame1
import Derived.Deep.RegionWith
import Derived.BigQuiet
namespace Go.Proofs.Ythimglgjeibaoaa
open Go.RowKit
set_option linter.unusedVariables false
set_option maxHeartbeats 1600000 in
theorem withCame_sig (h : Pl.Past) (hz : h.opn.length = 40) (p : Int) (nm : ByteArray) (o : Bool) (vk vn : Int) (vt : ByteArray) (w : World) (hc : 0 ≤ h.came ∧ h.came ≤ 1000000) :
    Calls Try.prog 37 #[pastV h, cameV 4 p nm o vk vn vt] w fun x w' => x = .returned (.tuple #[pastV (Pl.withCame h 4 p).1, .bool (Pl.withCame h 4 p).2]) ∧ Below w.heap.size w w' := by
  unfold pastV
  have hs := hide (pastC_ok h hz)
  have h2 := pastC_2 h
  have HF : Hid (((pastC h).setIfInBounds 2 (.int .i64 (h.came + 1))).setIfInBounds 45 (.bool true) = pastC (Pl.withCame h 4 p).1) := by
    show _ = _
    rw [pastC_set2, pastC_set45 _ (by exact hz)]
    rfl
  have h45 := pastC_45 h hz
  have HR : Hid ((Pl.withCame h 4 p).2 = decide (h.came < 60)) := rfl
  generalize (Pl.withCame h 4 p).2 = rb at *
  generalize pastC (Pl.withCame h 4 p).1 = C' at *
  generalize pastC h = C at *
  generalize h.came = cm at *
  obtain ⟨hc0, hc1⟩ := hc
  by_cases hq : cm < 60
  all_goals
    go_enter Try.func37, Try.ntmps37
    go_wp2_with (first
      | (with_reducible show wpList _ _ _ (Oper.mk _ (Op.load 50 _) _ _ _ _ :: _) _ _; refine wl61 rfl (.tmp 2) rfl w.heap.size rfl _ (top3 _ _ _ _) ((hs.out.set rfl).set rfl) ?_)
      | (with_reducible show wpList _ _ _ (Oper.mk _ (Op.store 50 _ _) _ _ _ _ :: _) _ _; refine ws61 rfl (.tmp 4) (.tmp 18) rfl (w.heap.size + 1 + 1) rfl _ rfl _ (top3'' _ _ _ _) rfl ((hs.out.set rfl).set rfl) ?_; intro W9 hW9))
    refine bodyPost_ret (results_past Try.results37 _ W9 (w.heap.size + 1 + 1) _ rfl (by rw [hW9.out]; exact setRow_heap _ _ _ _ _ _ (top3'' _ _ _ _)) ((hs.out.set rfl).set rfl)) rfl ⟨?_, ?_⟩
    · rw [HF.out, HR.out]; simp [hq]
    · rw [hW9.out]
      exact below_setRow ((((Below.refl _ _).alloc (Nat.le_refl _) _).alloc (by simp) _).alloc (by simp; omega) _) (by omega) _
set_option maxHeartbeats 1600000 in
theorem withCame_place (h : Pl.Past) (hz : h.opn.length = 40) (k : Int) (hk : ¬ k = 4) (n : Nat) (hn : n < 40) (nm : ByteArray) (o : Bool) (vk vn : Int) (vt : ByteArray) (w : World) (hc : 0 ≤ h.came ∧ h.came ≤ 1000000) :
    Calls Try.prog 37 #[pastV h, cameV k n nm o vk vn vt] w fun x w' => x = .returned (.tuple #[pastV (Pl.withCame h k n).1, .bool (Pl.withCame h k n).2]) ∧ Below w.heap.size w w' := by
  unfold pastV
  have hs := hide (pastC_ok h hz)
  have h2 := pastC_2 h
  have h5 := pastC_opn h hz n hn
  have h45 := pastC_45 h hz
  have HF : Hid ((((pastC h).setIfInBounds 2 (.int .i64 (h.came + 1))).setIfInBounds 45 (.bool true)).setIfInBounds (5 + n) (.int .i64 0) = pastC (Pl.withCame h k n).1) := by
    show _ = _
    rw [pastC_set2, pastC_set45 _ (by exact hz), pastC_setO _ (by exact hz) n hn]
    simp [Pl.withCame, hk]
  have HR : Hid ((Pl.withCame h k n).2 = (decide (h.came < 60) && (h.opn[n]?.getD 0 == k))) := by show _ = _; simp [Pl.withCame, hk]
  have K5 : Hid ((((pastC h).setIfInBounds 2 (.int .i64 (h.came + 1))).setIfInBounds 45 (.bool true))[5 + n]? = some (.int .i64 (h.opn[n]?.getD 0))) := by
    show _ = _
    rw [Array.getElem?_setIfInBounds_ne (by omega), Array.getElem?_setIfInBounds_ne (by omega)]
    exact h5
  generalize (Pl.withCame h k n).2 = rb at *
  generalize pastC (Pl.withCame h k n).1 = C' at *
  generalize pastC h = C at *
  generalize h.came = cm at *
  generalize h.opn[n]?.getD 0 = ov at *
  obtain ⟨hc0, hc1⟩ := hc
  have q4 : (k == 4) = false := by simp [hk]
  have hnn : (n : Int) < 40 := by omega
  clear hk
  by_cases hq : cm < 60
  · have HR' : Hid (rb = (ov == k)) := by show _ = _; rw [HR.out]; simp [hq]
    go_enter Try.func37, Try.ntmps37
    go_wp2_with fail
    have k5 := K5.out
    have hs2 := hide ((hs.out.set (i := 2) (v := .int .i64 (cm + 1)) rfl).set (i := 45) (v := .bool true) rfl)
    generalize (C.setIfInBounds 2 (Value.int .i64 (cm + 1))).setIfInBounds 45 (Value.bool true) = C2 at *
    clear h2 h5 h45
    cases hov : (ov == k)
    all_goals
      go_quiet (fail)
      refine gen_exit (fun X => Hid (X.heap[w.heap.size]? = some (.cells C2 50 (0, 0)) ∧ X.heap[w.heap.size + 1]? = some (.cells #[.int .i64 k, .int .i64 n, .string nm, .bool o, .int .i64 vk, .int .i64 vn, .string vt] 44 (0, 0)) ∧ (∃ Z, X.heap[w.heap.size + 1 + 1]? = some (.cells Z 50 (0, 0)) ∧ Z.size = 47) ∧ Below w.heap.size w X)) ⟨by simp only [World.heap_drewN]; exact top3 _ _ _ _, by simp only [World.heap_drewN]; exact top3' _ _ _ _, ⟨_, by simp only [World.heap_drewN]; exact top3'' _ _ _ _, rfl⟩, below_drewN' (bel3 _ _ _ _) _⟩ ?_
      intro X HX
      obtain ⟨hX0, hX1, ⟨Z, hX2, hZ⟩, hXB⟩ := HX.out
      have c1 : X.cell? ⟨w.heap.size + 1, 1, none⟩ = some (.int .i64 n) := cell_of_block hX1 1
      have c5 : X.cell? ⟨w.heap.size, 5 + n, none⟩ = some (.int .i64 ov) := (cell_of_block hX0 (5 + n)).trans k5
      have f5 : X.frozen? ⟨w.heap.size, 5 + n, none⟩ = false := free_of_block hX0 (5 + n)
      have HX0 := hide (block_set hX0 (5 + n) (.int .i64 0))
      have HX2 : Hid ((X.setCell ⟨w.heap.size, 5 + n, none⟩ (.int .i64 0)).heap[w.heap.size + 1 + 1]? = some (.cells Z 50 (0, 0))) := by show _ = _; rw [Below.heap_setCell _ _ _ _ (by simp only; omega)]; exact hX2
      have HXB : Hid (Below w.heap.size w (X.setCell ⟨w.heap.size, 5 + n, none⟩ (.int .i64 0))) := hXB.setCell (by simp only; omega) _
      have HZ := hide hZ
      clear hX0 hX1 hX2 hXB HX hZ
      go_wp2_with (first
        | (with_reducible show wpList _ _ _ (Oper.mk _ (Op.load 50 _) _ _ _ _ :: _) _ _; refine wl61 rfl (.tmp 2) rfl w.heap.size rfl _ HX0.out (hs2.out.set rfl) ?_)
        | (with_reducible show wpList _ _ _ (Oper.mk _ (Op.store 50 _ _) _ _ _ _ :: _) _ _; refine ws61 rfl (.tmp 4) (.tmp 35) rfl (w.heap.size + 1 + 1) rfl _ rfl _ HX2.out HZ.out (hs2.out.set rfl) ?_; intro W9 hW9))
      refine bodyPost_ret (results_past Try.results37 _ W9 (w.heap.size + 1 + 1) _ rfl (by rw [hW9.out]; exact setRow_heap _ _ _ _ _ _ HX2.out) (hs2.out.set rfl)) rfl ⟨?_, ?_⟩
      · rw [HF.out, HR'.out]; simp [hov]
      · rw [hW9.out]
        exact below_setRow HXB.out (by omega) _
  · have HR' : Hid (rb = false) := by show _ = _; rw [HR.out]; simp [hq]
    go_enter Try.func37, Try.ntmps37
    go_wp2_with fail
    have k5 := K5.out
    have hs2 := hide ((hs.out.set (i := 2) (v := .int .i64 (cm + 1)) rfl).set (i := 45) (v := .bool true) rfl)
    generalize (C.setIfInBounds 2 (Value.int .i64 (cm + 1))).setIfInBounds 45 (Value.bool true) = C2 at *
    clear h2 h5 h45
    go_quiet (fail)
    refine gen_exit (fun X => Hid (X.heap[w.heap.size]? = some (.cells C2 50 (0, 0)) ∧ X.heap[w.heap.size + 1]? = some (.cells #[.int .i64 k, .int .i64 n, .string nm, .bool o, .int .i64 vk, .int .i64 vn, .string vt] 44 (0, 0)) ∧ (∃ Z, X.heap[w.heap.size + 1 + 1]? = some (.cells Z 50 (0, 0)) ∧ Z.size = 47) ∧ Below w.heap.size w X)) ⟨by simp only [World.heap_drewN]; exact top3 _ _ _ _, by simp only [World.heap_drewN]; exact top3' _ _ _ _, ⟨_, by simp only [World.heap_drewN]; exact top3'' _ _ _ _, rfl⟩, below_drewN' (bel3 _ _ _ _) _⟩ ?_
    intro X HX
    obtain ⟨hX0, hX1, ⟨Z, hX2, hZ⟩, hXB⟩ := HX.out
    have c1 : X.cell? ⟨w.heap.size + 1, 1, none⟩ = some (.int .i64 n) := cell_of_block hX1 1
    have c5 : X.cell? ⟨w.heap.size, 5 + n, none⟩ = some (.int .i64 ov) := (cell_of_block hX0 (5 + n)).trans k5
    have f5 : X.frozen? ⟨w.heap.size, 5 + n, none⟩ = false := free_of_block hX0 (5 + n)
    have HX0 := hide (block_set hX0 (5 + n) (.int .i64 0))
    have HX2 : Hid ((X.setCell ⟨w.heap.size, 5 + n, none⟩ (.int .i64 0)).heap[w.heap.size + 1 + 1]? = some (.cells Z 50 (0, 0))) := by show _ = _; rw [Below.heap_setCell _ _ _ _ (by simp only; omega)]; exact hX2
    have HXB : Hid (Below w.heap.size w (X.setCell ⟨w.heap.size, 5 + n, none⟩ (.int .i64 0))) := hXB.setCell (by simp only; omega) _
    have HZ := hide hZ
    clear hX0 hX1 hX2 hXB HX hZ
    go_wp2_with (first
      | (with_reducible show wpList _ _ _ (Oper.mk _ (Op.load 50 _) _ _ _ _ :: _) _ _; refine wl61 rfl (.tmp 2) rfl w.heap.size rfl _ HX0.out (hs2.out.set rfl) ?_)
      | (with_reducible show wpList _ _ _ (Oper.mk _ (Op.store 50 _ _) _ _ _ _ :: _) _ _; refine ws61 rfl (.tmp 4) (.tmp 35) rfl (w.heap.size + 1 + 1) rfl _ rfl _ HX2.out HZ.out (hs2.out.set rfl) ?_; intro W9 hW9))
    refine bodyPost_ret (results_past Try.results37 _ W9 (w.heap.size + 1 + 1) _ rfl (by rw [hW9.out]; exact setRow_heap _ _ _ _ _ _ HX2.out) (hs2.out.set rfl)) rfl ⟨?_, ?_⟩
    · rw [HF.out, HR'.out]; rfl
    · rw [hW9.out]
      exact below_setRow HXB.out (by omega) _
end Go.Proofs.Ythimglgjeibaoaa
