/- What the program knows with one more task, as it reckons it. -/
import Derived.Test.YthimglgjeibaoaaPaM
namespace Go.Proofs.Ythimglgjeibaoaa
open Go.RowKit
set_option linter.unusedVariables false
set_option maxHeartbeats 800000 in
theorem withTask_any (h : Pl.Past) (hz : h.opn.length = 40) (many : Int) (w : World) (ht : 0 ≤ h.tasks ∧ h.tasks ≤ 1000000) (ha : 0 ≤ h.asked ∧ h.asked ≤ 1000) (hm : 0 ≤ many ∧ many ≤ 40) :
    Calls Try.prog 35 #[pastV h, .int .i64 many] w fun x w' => x = .returned (.tuple #[pastV (Pl.withTask h many).1, .bool (Pl.withTask h many).2]) ∧ Below w.heap.size w w' := by
  unfold pastV
  have hs := hide (pastC_ok h hz)
  have h1 := pastC_1 h
  have h3 := pastC_3 h
  have h4 := pastC_4 h
  have h45 := pastC_45 h hz
  have HE : Hid (((pastC h).setIfInBounds 1 (.int .i64 (h.tasks + 1))).setIfInBounds 4 (.int .i64 many) = pastC { h with tasks := h.tasks + 1, due := many }) := by
    show _ = _
    rw [pastC_set1, pastC_set4]
  have HF : Hid ((((pastC h).setIfInBounds 1 (.int .i64 (h.tasks + 1))).setIfInBounds 4 (.int .i64 many)).setIfInBounds 45 (.bool false) = pastC (Pl.withTask h many).1) := by
    show _ = _
    rw [HE.out, pastC_set45 _ (by exact hz)]
    rfl
  have HR : Hid ((Pl.withTask h many).2 = (h.news && decide (h.asked + many ≤ 40))) := rfl
  clear HE
  generalize (Pl.withTask h many).2 = rb at *
  generalize pastC (Pl.withTask h many).1 = C' at *
  generalize pastC h = C at *
  generalize h.tasks = tasks at *
  generalize h.asked = asked at *
  obtain ⟨ht0, ht1⟩ := ht
  obtain ⟨ha0, ha1⟩ := ha
  obtain ⟨hm0, hm1⟩ := hm
  cases hn : h.news
  · rw [hn] at h45 HR
    go_enter Try.func35, Try.ntmps35
    go_wp2_with (first
      | (with_reducible show wpList _ _ _ (Oper.mk _ (Op.load 50 _) _ _ _ _ :: _) _ _; refine wl61 rfl (.tmp 2) rfl w.heap.size rfl _ (top2 _ _ _) (((hs.out.set rfl).set rfl).set rfl) ?_)
      | (with_reducible show wpList _ _ _ (Oper.mk _ (Op.store 50 _ _) _ _ _ _ :: _) _ _; refine ws61 rfl (.tmp 4) (.tmp 23) rfl (w.heap.size + 1) rfl _ rfl _ (top2' _ _ _) rfl (((hs.out.set rfl).set rfl).set rfl) ?_; intro W9 hW9))
    refine bodyPost_ret (results_past Try.results35 _ W9 (w.heap.size + 1) _ rfl (by rw [hW9.out]; exact setRow_heap _ _ _ _ _ _ (top2' _ _ _)) (((hs.out.set rfl).set rfl).set rfl)) rfl ⟨?_, ?_⟩
    · rw [HF.out, HR.out]; rfl
    · rw [hW9.out]
      exact below_setRow (((Below.refl _ _).alloc (Nat.le_refl _) _).alloc (by simp) _) (by omega) _
  · rw [hn] at h45 HR
    by_cases hq : asked + many ≤ 40
    all_goals
      go_enter Try.func35, Try.ntmps35
      go_wp2_with (first
        | (with_reducible show wpList _ _ _ (Oper.mk _ (Op.load 50 _) _ _ _ _ :: _) _ _; refine wl61 rfl (.tmp 2) rfl w.heap.size rfl _ (top2 _ _ _) (((hs.out.set rfl).set rfl).set rfl) ?_)
        | (with_reducible show wpList _ _ _ (Oper.mk _ (Op.store 50 _ _) _ _ _ _ :: _) _ _; refine ws61 rfl (.tmp 4) (.tmp 23) rfl (w.heap.size + 1) rfl _ rfl _ (top2' _ _ _) rfl (((hs.out.set rfl).set rfl).set rfl) ?_; intro W9 hW9))
      refine bodyPost_ret (results_past Try.results35 _ W9 (w.heap.size + 1) _ rfl (by rw [hW9.out]; exact setRow_heap _ _ _ _ _ _ (top2' _ _ _)) (((hs.out.set rfl).set rfl).set rfl)) rfl ⟨?_, ?_⟩
      · rw [HF.out, HR.out]; simp [hq]
      · rw [hW9.out]
        exact below_setRow (((Below.refl _ _).alloc (Nat.le_refl _) _).alloc (by simp) _) (by omega) _
end Go.Proofs.Ythimglgjeibaoaa
