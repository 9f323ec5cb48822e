/- Two contents worked with: numbers, texts, whether they are the same. -/
import Derived.Test.YtamkncfdfaejjaaGreatDoorEvI1
import Derived.Test.YtamkncfdfaejjaaGreatDoorEvD
namespace Go.Proofs.YtamkncfdfaejjaaGreatDoor
open Go.RowKit
set_option linter.unusedVariables false
set_option linter.unusedSimpArgs false
set_option maxHeartbeats 800000 in
theorem sub_any (n m : Int) (h : -2000000000 ≤ n - m ∧ n - m ≤ 2000000000) (w : World) : Calls Tryz.prog 112 #[.int .i64 n, .int .i64 m] w fun e w' => e = .returned (.int .i64 (n - m)) ∧ w' = w := by
  obtain ⟨x, hx⟩ : ∃ x : Int, x = n - m := ⟨_, rfl⟩
  rw [← hx] at h ⊢
  have hw : IntKind.i64.wrap (n - m) = x := by rw [IntKind.wrap_i64, ← hx]; omega
  clear hx h
  go_enter Tryz.func112, Tryz.ntmps112
  go_wp2
  go_ret
  exact ⟨rfl, rfl⟩
set_option maxHeartbeats 800000 in
theorem mul_any (n m : Int) (h : -1000000000000000000 ≤ n * m ∧ n * m ≤ 1000000000000000000) (w : World) : Calls Tryz.prog 113 #[.int .i64 n, .int .i64 m] w fun e w' => e = .returned (.int .i64 (n * m)) ∧ w' = w := by
  obtain ⟨x, hx⟩ : ∃ x : Int, x = n * m := ⟨_, rfl⟩
  rw [← hx] at h ⊢
  have hw : IntKind.i64.wrap (n * m) = x := by rw [IntKind.wrap_i64, ← hx]; omega
  clear hx h
  go_enter Tryz.func113, Tryz.ntmps113
  go_wp2
  go_ret
  exact ⟨rfl, rfl⟩
set_option maxHeartbeats 800000 in
theorem plus_any (n m : Int) (h : -2000000000 ≤ n + m ∧ n + m ≤ 2000000000) (w : World) : Calls Tryz.prog 127 #[.int .i64 n, .int .i64 m] w fun e w' => e = .returned (.int .i64 (n + m)) ∧ w' = w := by
  obtain ⟨x, hx⟩ : ∃ x : Int, x = n + m := ⟨_, rfl⟩
  rw [← hx] at h ⊢
  have hw : IntKind.i64.wrap (n + m) = x := by rw [IntKind.wrap_i64, ← hx]; omega
  clear hx h
  go_enter Tryz.func127, Tryz.ntmps127
  go_wp2
  go_ret
  exact ⟨rfl, rfl⟩
theorem fun_sub : Fun 112 := ⟨_, Tryz.func112, by kernel_rfl, by kernel_rfl⟩
theorem fun_mul : Fun 113 := ⟨_, Tryz.func113, by kernel_rfl, by kernel_rfl⟩
theorem fun_plus : Fun 127 := ⟨_, Tryz.func127, by kernel_rfl, by kernel_rfl⟩
/-- numbers alone: the work is another function's -/
def NumW (id : FuncId) (op : Int → Int → Int) : Prop := Fun id ∧ ∀ n m : Int, -1000000000 ≤ n → n ≤ 1000000000 → -1000000000 ≤ m → m ≤ 1000000000 → ∀ w : World, Calls Tryz.prog id #[.int .i64 n, .int .i64 m] w fun e w' => e = .returned (.int .i64 (op n m)) ∧ w' = w
theorem numw_sub : NumW 112 (fun a b => a - b) := ⟨fun_sub, fun n m a b c d w => sub_any n m (by omega) w⟩
theorem numw_mul : NumW 113 (fun a b => a * b) := ⟨fun_mul, fun n m a b c d w => mul_any n m (mul_range ⟨a, b⟩ ⟨c, d⟩) w⟩
theorem numw_plus : NumW 127 (fun a b => a + b) := ⟨fun_plus, fun n m a b c d w => plus_any n m (by omega) w⟩
set_option maxRecDepth 100000 in
set_option maxHeartbeats 1600000 in
theorem ofNums_yes (id : FuncId) (op : Int → Int → Int) (hw : NumW id op) (n m : Int) (hn : -1000000000 ≤ n ∧ n ≤ 1000000000) (hm : -1000000000 ≤ m ∧ m ≤ 1000000000) (b : Nat) (w : World) (hb : w.cell? ⟨b, 0, none⟩ = some (.func (.func id) #[] #[])) :
    Calls Tryz.prog 129 #[cvI n, cvI m, .pointer (some ⟨b, 0, none⟩)] w (WorkPost (Pl.numA (op n m)) w) := by
  have hbn := hide (bothNums_yes n m)
  have hop := hide (hw.2 n m hn.1 hn.2 hm.1 hm.2)
  have hcf := run_fun hw.1
  clear hw
  generalize op n m = x at *
  clear hn hm
  by_cases h1 : x < -1000000000
  · have hR : Hid (Pl.numA x = none) := by show _ = _; unfold Pl.numA; rw [if_neg]; simp; omega
    go_enter Tryz.func129, Tryz.ntmps129
    go_wp2_with fail
    refine (hbn.out _).mono ?_
    rintro e w1 ⟨rfl, rfl⟩
    go_wp2_with fail
    refine (hop.out _).mono ?_
    rintro e w1 ⟨rfl, rfl⟩
    go_wp2
    go_ret2
    exact ⟨⟨_, rfl, by rw [hR.out]; exact ⟨_, rfl⟩⟩, Below.refl _ _⟩
  · by_cases h2 : x > 1000000000
    · have hR : Hid (Pl.numA x = none) := by show _ = _; unfold Pl.numA; rw [if_neg]; simp; omega
      go_enter Tryz.func129, Tryz.ntmps129
      go_wp2_with fail
      refine (hbn.out _).mono ?_
      rintro e w1 ⟨rfl, rfl⟩
      go_wp2_with fail
      refine (hop.out _).mono ?_
      rintro e w1 ⟨rfl, rfl⟩
      go_wp2
      go_ret2
      exact ⟨⟨_, rfl, by rw [hR.out]; exact ⟨_, rfl⟩⟩, Below.refl _ _⟩
    · have hR : Hid (Pl.numA x = some ⟨1, x, ⟨#[]⟩⟩) := by show _ = _; unfold Pl.numA; rw [if_pos]; simp; omega
      go_enter Tryz.func129, Tryz.ntmps129
      go_wp2_with fail
      refine (hbn.out _).mono ?_
      rintro e w1 ⟨rfl, rfl⟩
      go_wp2_with fail
      refine (hop.out _).mono ?_
      rintro e w1 ⟨rfl, rfl⟩
      go_wp2
      go_ret2
      exact ⟨⟨_, rfl, by rw [hR.out]; rfl⟩, Below.refl _ _⟩
set_option maxRecDepth 100000 in
set_option maxHeartbeats 1600000 in
theorem ofNums_no (a b : Value) (ha : a = cvN ∨ (∃ n, a = cvI n) ∨ ∃ t, a = cvT t) (hb : b = cvN ∨ (∃ n, b = cvI n) ∨ ∃ t, b = cvT t) (hn : ¬ bothB a b) (p : Value) (w : World) :
    Calls Tryz.prog 129 #[a, b, p] w (WorkPost none w) := by
  have hbn := hide (bothNums_no a b ha hb hn)
  clear ha hb hn
  go_enter Tryz.func129, Tryz.ntmps129
  go_wp2_with fail
  refine (hbn.out _).mono ?_
  rintro e w1 ⟨⟨s, rfl⟩, rfl⟩
  go_wp2
  go_ret2
  exact ⟨⟨_, rfl, s, rfl⟩, Below.refl _ _⟩
end Go.Proofs.YtamkncfdfaejjaaGreatDoor
