/- The law on ValueOk, walked. -/
import Derived.Test.YtcppfoldiiaefaaVal5
namespace Go.Proofs.Ytcppfoldiiaefaa
open Go.RowKit
set_option linter.unusedVariables false

theorem box3p {B : Nat} {w w1 : World} {x y z : Value} {T : TypeId} (hb : Below B (w.alloc (.cells #[x, y, z] T)) w1) (h : w.heap.size < B) :
    w1.cell? ⟨w.heap.size, 0, none⟩ = some x ∧ w1.cell? ⟨w.heap.size, 1, none⟩ = some y ∧ w1.cell? ⟨w.heap.size, 2, none⟩ = some z := by
  refine ⟨?_, ?_, ?_⟩
  · rw [hb.cell (p := ⟨w.heap.size, 0, none⟩) h]; simp
  · rw [hb.cell (p := ⟨w.heap.size, 1, none⟩) h]; simp
  · rw [hb.cell (p := ⟨w.heap.size, 2, none⟩) h]; simp
/-- the three cells of a box, in a later world -/
theorem later3 {B : Nat} {w1 w2 : World} {b : Nat} {x y z : Value} (hb : Below B w1 w2) (h : b < B)
    (hc : w1.cell? ⟨b, 0, none⟩ = some x ∧ w1.cell? ⟨b, 1, none⟩ = some y ∧ w1.cell? ⟨b, 2, none⟩ = some z) :
    w2.cell? ⟨b, 0, none⟩ = some x ∧ w2.cell? ⟨b, 1, none⟩ = some y ∧ w2.cell? ⟨b, 2, none⟩ = some z := by
  obtain ⟨a, c, d⟩ := hc
  exact ⟨by rw [hb.cell (p := ⟨b, 0, none⟩) h, a], by rw [hb.cell (p := ⟨b, 1, none⟩) h, c], by rw [hb.cell (p := ⟨b, 2, none⟩) h, d]⟩

set_option maxHeartbeats 800000 in
theorem lawValueOk_any (k n : Int) (t : ByteArray) (wk : (Lit.int .i64 k).wf = true) (wn : (Lit.int .i64 n).wf = true) (ht : t.size ≤ maxLen) (w : World) :
    Calls Try.prog 3 #[vAgg k n t] w fun e w' => e = .returned (.bool true) ∧ Below w.heap.size w w' := by
  by_cases hbig : 1048576 < (t.size : Int)
  · have hs := fun w => szValue_any k n t ht w
    rw [if_pos hbig] at hs
    go_enter Try.func3, Try.ntmps3
    go_wp2_with (go_at_call 7; refine (hs _).mono ?_; rintro e w1 ⟨rfl, hB⟩)
    go_ret
    exact ⟨rfl, ((Below.refl _ _).alloc (Nat.le_refl _) _).trans (hB.mono (by simp))⟩
  · have hs := fun w => szValue_any k n t ht w
    rw [if_neg hbig] at hs
    have hs := hide hs
    go_enter Try.func3, Try.ntmps3
    go_wp2_with fail
    refine (hs.out _).mono ?_
    rintro e w1 ⟨rfl, hB1⟩
    have z1 : w.heap.size < w1.heap.size := by have := hB1.size; simp at this; omega
    have cc1 := box3p hB1 (by simp)
    obtain ⟨c0, c1, c2⟩ := cc1
    go_wp2_with fail
    refine (toValue_any _ _ _ _).mono ?_
    rintro e w2 ⟨rfl, hB2⟩
    clear c0 c1 c2
    have z2 : w.heap.size < w2.heap.size := by have := hB2.size; omega
    have cc2 := hide (later3 hB2 z1 (box3p hB1 (by simp)))
    go_wp2_with fail
    refine (specValueOk_any _ _ _ ht _).mono ?_
    rintro e w3 ⟨rfl, hB3⟩
    have z3 : w.heap.size < w3.heap.size := by have := hB3.size; omega
    have cc3 := hide (later3 hB3 z2 cc2.out)
    obtain ⟨c0, c1, c2⟩ := cc3.out
    go_wp2_with fail
    refine (toValue_any _ _ _ _).mono ?_
    rintro e w4 ⟨rfl, hB4⟩
    clear c0 c1 c2
    go_wp2_with fail
    refine (implValueOk_any _ _ _ ht _).mono ?_
    rintro e w5 ⟨rfl, hB5⟩
    go_wp2
    go_ret
    refine ⟨rfl, ?_⟩
    have q0 : Below w.heap.size w w1 := ((Below.refl _ _).alloc (Nat.le_refl _) _).trans (hB1.mono (by simp))
    have s4 := hB4.size
    exact (((q0.trans (hB2.mono (by omega))).trans (hB3.mono (by omega))).trans (hB4.mono (by omega))).trans (hB5.mono (by omega))
end Go.Proofs.Ytcppfoldiiaefaa
