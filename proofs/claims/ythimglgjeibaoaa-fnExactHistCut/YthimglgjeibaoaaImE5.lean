/- Whether an event has what its kind needs, as the program asks it: what is called off, and kinds that are none. -/
import Derived.Test.YthimglgjeibaoaaSpE
import Derived.Test.YthimglgjeibaoaaEvL
namespace Go.Proofs.Ythimglgjeibaoaa
open Go.RowKit
set_option linter.unusedVariables false
set_option linter.unusedSimpArgs false
set_option maxHeartbeats 1600000 in
theorem fits_5 (e : Ev) (hk : e.k = 5) (w : World) :
    Calls Try.prog 34 #[evV e] w fun x w' => x = .returned (.bool (Pl.evB e)) ∧ Below w.heap.size w w' := by
  have hE := eqlEv5 e
  have HR : Hid (Pl.evB e = (Pl.noVal e.vk e.vn e.vt && ((e.many == 0) && (Pl.noCmd e.ck e.cn e.ak e.an e.ax && Pl.noCame e.ct e.mp e.mn e.mo e.wk e.wn e.wt)))) := by show _ = _; simp [Pl.evB, hk]
  generalize (Pl.noVal e.vk e.vn e.vt && ((e.many == 0) && (Pl.noCmd e.ck e.cn e.ak e.an e.ax && Pl.noCame e.ct e.mp e.mn e.mo e.wk e.wn e.wt))) = eb at *
  generalize Pl.evB e = rb at *
  have q1 : (e.k == 1) = false := by simp [hk]
  have q2 : (e.k == 2) = false := by simp [hk]
  have q3 : (e.k == 3) = false := by simp [hk]
  have q4 : (e.k == 4) = false := by simp [hk]
  have q5 : (e.k == 5) = true := by simp [hk]
  clear hk
  go_enter Try.func34, Try.ntmps34
  go_wp2_with (first
    | (with_reducible show wpList _ _ _ (Oper.mk _ (Op.build 46 _) _ _ _ _ :: _) _ _; refine we_build rfl (.tmp 6) rfl e.k rfl ?_)
    | (with_reducible show wpList _ _ _ (Oper.mk _ (Op.store 46 _ _) _ _ _ _ :: _) _ _; refine we_store rfl (.tmp 3) (.tmp 7) rfl (w.heap.size + 1) rfl _ rfl (by simp) rfl (onlyL_ok e.k) ?_)
    | (with_reducible show wpList _ _ _ (Oper.mk _ (Op.load 46 (.tmp 1)) _ _ _ _ :: _) _ _; refine we_load rfl (.tmp 1) rfl w.heap.size rfl _ (top2 _ _ _) (evL_ok e) ?_)
    | (with_reducible show wpList _ _ _ (Oper.mk _ (Op.load 46 (.tmp 3)) _ _ _ _ :: _) _ _; refine we_load rfl (.tmp 3) rfl (w.heap.size + 1) rfl _ (top2' _ _ _) (onlyL_ok e.k) ?_))
  go_ret
  exact ⟨by rw [HR.out]; rfl, ((Below.refl _ _).alloc (Nat.le_refl _) _).alloc (by simp) _⟩
set_option maxHeartbeats 1600000 in
theorem fits_0 (e : Ev) (hk : ¬ (1 ≤ e.k ∧ e.k ≤ 5)) (w : World) :
    Calls Try.prog 34 #[evV e] w fun x w' => x = .returned (.bool (Pl.evB e)) ∧ Below w.heap.size w w' := by
  have HR : Hid (Pl.evB e = false) := by
    show _ = _
    simp only [Pl.evB]
    rw [if_neg (by omega), if_neg (by omega), if_neg (by omega), if_neg (by omega), if_neg (by omega)]
  generalize Pl.evB e = rb at *
  have q1 : (e.k == 1) = false := by simp; omega
  have q2 : (e.k == 2) = false := by simp; omega
  have q3 : (e.k == 3) = false := by simp; omega
  have q4 : (e.k == 4) = false := by simp; omega
  have q5 : (e.k == 5) = false := by simp; omega
  clear hk
  go_enter Try.func34, Try.ntmps34
  go_wp2_with (first
    | (with_reducible show wpList _ _ _ (Oper.mk _ (Op.build 46 _) _ _ _ _ :: _) _ _; refine we_build rfl (.tmp 6) rfl e.k rfl ?_)
    | (with_reducible show wpList _ _ _ (Oper.mk _ (Op.store 46 _ _) _ _ _ _ :: _) _ _; refine we_store rfl (.tmp 3) (.tmp 7) rfl (w.heap.size + 1) rfl _ rfl (by simp) rfl (onlyL_ok e.k) ?_)
    | (with_reducible show wpList _ _ _ (Oper.mk _ (Op.load 46 (.tmp 1)) _ _ _ _ :: _) _ _; refine we_load rfl (.tmp 1) rfl w.heap.size rfl _ (top2 _ _ _) (evL_ok e) ?_)
    | (with_reducible show wpList _ _ _ (Oper.mk _ (Op.load 46 (.tmp 3)) _ _ _ _ :: _) _ _; refine we_load rfl (.tmp 3) rfl (w.heap.size + 1) rfl _ (top2' _ _ _) (onlyL_ok e.k) ?_))
  go_ret
  exact ⟨by rw [HR.out]; rfl, ((Below.refl _ _).alloc (Nat.le_refl _) _).alloc (by simp) _⟩
end Go.Proofs.Ythimglgjeibaoaa
