/- A drawn text of words. -/
import Derived.Test.YteadmjhmahjmdaaDrawT
import Derived.Test.YteadmjhmahjmdaaPlT
namespace Go.Proofs.Yteadmjhmahjmdaa
open Go.RowKit
set_option linter.unusedVariables false

theorem drawn_size2 (a b : ByteArray) : (a ++ b).size = a.size + b.size := by simp

set_option maxHeartbeats 1600000 in
theorem drawWords_any (len : Nat) (c : Value) (W : World) (hc : CodeOk W.heap.size W c len) (hl : len ≤ 1048576) :
    Calls Try.prog 6 #[c] W fun e W' => ∃ s : ByteArray, s.size ≤ 1000 ∧ e = .returned (.string s) ∧ Below W.heap.size W W' := by
  have ho := hide (open_code W.heap.size len c W (Nat.le_refl _) hc hl)
  clear hc
  go_enter Try.func6, Try.ntmps6
  go_wp2_with fail
  refine ho.out.mono ?_
  rintro e W1 ⟨br, l2, rfl, hR, hbr, hB⟩
  have hpk := hide (pick_any W.heap.size br 0 l2 9 (by omega) (by omega) (by omega) W1 hR)
  have HR := hide hR
  clear hR
  go_wp2_with fail
  refine hpk.out.mono ?_
  rintro e W2 ⟨x, k, hx, rfl, rfl⟩
  have HR1 := hide (HR.out.next k)
  have hB1 : Below W.heap.size W (World.drewN (W1.setCell ⟨br, 1, none⟩ (.int .i64 ((0 : Nat) + 1))) k) := hB.trans (below_pick hbr)
  have HB1 := hide hB1
  clear hB1
  go_wp2_with fail
  go_loopw [4, 5] (fun ov nv wr => ∃ (m p : Nat) (out : ByteArray), nv = .int .i64 m ∧ ov = .string out ∧ out.size + 48 * m ≤ 432 ∧ p + 4 * m ≤ 100 ∧ Hid (RdAt W.heap.size br p l2 wr) ∧ Below W.heap.size W wr) (fun _ nv _ => (intOf nv).toNat)
  case atStart => exact ⟨x, 1, ⟨#[]⟩, rfl, rfl, by show 0 + 48 * x ≤ 432; omega, by omega, HR1, HB1.out⟩
  case round =>
    obtain ⟨m, p, out, rfl, rfl, hos, hpm, HRr, hBr⟩ := hrel
    have hlt := HRr.out.lt
    by_cases hm : 0 < m
    · go_wp2_with fail
      refine (of_any W.heap.size br p l2 17 wr.heap.size 17 (by omega) (by omega) (by omega) _ (HRr.out.alloc _) (by omega) (shorts_lit ?_)).mono ?_
      · intro i hi
        have : i = 0 ∨ i = 1 ∨ i = 2 ∨ i = 3 ∨ i = 4 ∨ i = 5 ∨ i = 6 ∨ i = 7 ∨ i = 8 ∨ i = 9 ∨ i = 10 ∨ i = 11 ∨ i = 12 ∨ i = 13 ∨ i = 14 ∨ i = 15 ∨ i = 16 := by omega
        rcases this with rfl | rfl | rfl | rfl | rfl | rfl | rfl | rfl | rfl | rfl | rfl | rfl | rfl | rfl | rfl | rfl | rfl <;> exact ⟨_, rfl, by decide⟩
      · rintro e W3 ⟨s, k3, hs, rfl, hW3⟩
        have hR3 : RdAt W.heap.size br (p + 1) l2 W3 := by rw [hW3]; exact (HRr.out.alloc _).next k3
        have hB3 : Below W.heap.size W W3 := by rw [hW3]; exact (hBr.alloc hBr.size _).trans (below_pick hbr)
        clear hW3
        have hpk2 := hide (pick_any W.heap.size br (p + 1) l2 12 (by omega) (by omega) (by omega) W3 hR3)
        have HR3 := hide hR3
        clear hR3
        go_wp2_with fail
        refine hpk2.out.mono ?_
        rintro e W4 ⟨y, k4, hy, rfl, hW4⟩
        have hR4 : RdAt W.heap.size br (p + 1 + 1) l2 W4 := by rw [hW4]; exact HR3.out.next k4
        have hB4 : Below W.heap.size W W4 := by rw [hW4]; exact hB3.trans (below_pick hbr)
        clear hW4
        have hlt4 := hR4.lt
        have HR4 := hide hR4
        clear hR4
        by_cases hy0 : y = 0
        · subst hy0
          go_wp2_with fail
          refine (of_any W.heap.size br (p + 1 + 1) l2 3 W4.heap.size 3 (by omega) (by omega) (by omega) _ (HR4.out.alloc _) (by omega) (shorts_lit ?_)).mono ?_
          · intro i hi
            have : i = 0 ∨ i = 1 ∨ i = 2 := by omega
            rcases this with rfl | rfl | rfl <;> exact ⟨_, rfl, by decide⟩
          · rintro e W5 ⟨s5, k5, hs5, rfl, hW5⟩
            have hR5 : Hid (RdAt W.heap.size br (p + 1 + 1 + 1) l2 W5) := by rw [hW5]; exact (HR4.out.alloc _).next k5
            have hB5 : Below W.heap.size W W5 := by rw [hW5]; exact (hB4.alloc hB4.size _).trans (below_pick hbr)
            clear hW5
            go_wp2
            go_roundw
            case rel => exact ⟨m - 1, p + 1 + 1 + 1, out ++ s ++ s5, by go_num, rfl, by rw [drawn_size2, drawn_size2]; omega, by omega, hR5, hB5⟩
            case measure => simp [intOf]; omega
        · have hyb : ((y : Int) == 0) = false := beq_eq_false_iff_ne.2 (by omega)
          go_wp2
          go_roundw
          case rel => exact ⟨m - 1, p + 1 + 1, out ++ s, by go_num, rfl, by rw [drawn_size2]; omega, by omega, HR4, hB4⟩
          case measure => simp [intOf]; omega
    · go_wp2
      go_ret
      exact ⟨out, by omega, rfl, hBr⟩
end Go.Proofs.Yteadmjhmahjmdaa
