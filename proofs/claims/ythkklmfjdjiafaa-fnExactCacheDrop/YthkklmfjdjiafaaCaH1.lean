/- What was asked for, marked, and held against the marks. -/
import Derived.Test.YthkklmfjdjiafaaCaM1
import Derived.Deep.RegionHeld3
namespace Go.Proofs.Ythkklmfjdjiafaa
open Go.RowKit
set_option linter.unusedVariables false
set_option linter.unusedSimpArgs false
set_option maxRecDepth 100000 in
set_option maxHeartbeats 12800000 in
theorem heldCms_any (n : Nat) (a : Option Addr) (c k : Nat) (h1 : 1 ≤ k) (h2 : k + 5 * n ≤ 100000000) (hnc : n ≤ c) (hcm : c ≤ maxLen) (w : World) (hr : RowM 86 5 mkCms k a n n w) :
    Calls Try.prog 36 #[.slice a n c, .int .i64 (k : Int)] w fun x w' => x = .returned (.int .i64 ((k + 5 * n : Nat) : Int)) ∧ Below w.heap.size w w' := by
  unfold maxLen at hcm
  have HR := hide hr
  clear hr
  go_enter Try.func36, Try.ntmps36
  go_wp2_with fail
  go_loopw [1, 5] (fun kv iv wr => ∃ (i : Nat) (z : Int), i ≤ n ∧ iv = .int .i64 i ∧ kv = .int .i64 z ∧ Hid (z = ((k + 5 * i : Nat) : Int)) ∧ Hid (Below w.heap.size w wr)) (fun _ iv _ => n - (intOf iv).toNat)
  case atStart => exact ⟨0, k, by omega, rfl, rfl, hide (by simp), Below.refl _ _⟩
  case round =>
    obtain ⟨i, z, hi, rfl, rfl, HZ, HB⟩ := hrel
    by_cases hlt : i < n
    · obtain ⟨b, C, rfl, hb, hs, hcont⟩ := HR.out (by omega)
      have hbl : b < w.heap.size := (Array.getElem?_eq_some_iff.1 hb).1
      have HCW : Hid (∀ j u, (mkCms (k + 5 * i))[j]? = some u → wr.cell? ⟨b, i * 5 + j, none⟩ = some u) := hide fun j u hu => (Below.cell HB.out (p := ⟨b, i * 5 + j, none⟩) hbl).trans ((cell_of_block hb _).trans (hcont i hlt j u hu))
      have HGb : Hid (b < wr.heap.size) := by show _ < _; have := HB.out.size; omega
      have hz0 : 1 ≤ z := by have := HZ.out; omega
      have hz1 : z ≤ 100000000 := by have := HZ.out; omega
      have hii : (i : Int) < (n : Int) := by omega
      clear hb hs hcont HR hbl
      have q0 : wr.cell? ⟨b, i * 5, none⟩ = some (.int .i64 z : Value) := by
        rw [show (.int .i64 z : Value) = (.int .i64 ((k + 5 * i + 0 : Nat) : Int) : Value) by rw [HZ.out]; congr 1 <;> omega]
        exact HCW.out 0 _ rfl
      have q1 : wr.cell? ⟨b, i * 5 + 1, none⟩ = some (.string (Pl.bs (Pl.mark (k + 5 * i + 1))) : Value) := HCW.out 1 _ rfl
      have q2 : wr.cell? ⟨b, i * 5 + 2, none⟩ = some (.int .i64 (z + 1 + 1) : Value) := by
        rw [show (.int .i64 (z + 1 + 1) : Value) = (.int .i64 ((k + 5 * i + 2 : Nat) : Int) : Value) by rw [HZ.out]; congr 1 <;> omega]
        exact HCW.out 2 _ rfl
      have q3 : wr.cell? ⟨b, i * 5 + 3, none⟩ = some (.int .i64 (z + 1 + 1 + 1) : Value) := by
        rw [show (.int .i64 (z + 1 + 1 + 1) : Value) = (.int .i64 ((k + 5 * i + 3 : Nat) : Int) : Value) by rw [HZ.out]; congr 1 <;> omega]
        exact HCW.out 3 _ rfl
      have q4 : wr.cell? ⟨b, i * 5 + 4, none⟩ = some (.string (Pl.bs (Pl.mark (k + 5 * i + 4))) : Value) := HCW.out 4 _ rfl
      have n0 : ((z) != (z)) = false := by simp
      have n2 : ((z + 1 + 1) != (z + 1 + 1)) = false := by simp
      have n3 : ((z + 1 + 1 + 1) != (z + 1 + 1 + 1)) = false := by simp
      have HP0 := HB
      go_wp2_with fail
      refine wp_region_noPanic ?_
      refine wp_region_held_drew (S := fun W => Below wr.heap.size wr W) (by kernel_rfl) (below_drew' (Below.refl _ _)) (fun hHeld => ?_)
      refine wpAnyH_take (i := 0) (oi := Oper.mk (some 21) _ _ _ _ _) (v := ?_) rfl (by kernel_rfl) (by kernel_rfl) (by kernel_rfl) (fun _ _ _ h => h) (Or.inl ⟨by rfl, ?_⟩) (by assumption) ?_
      rotate_left
      · intro w0 hSw
        clear hSw
        go_simp
        all_goals (with_reducible rfl)
      simp only [Act.put, List.setIfInBounds_toArray, List.set_cons_zero, List.set_cons_succ]
      refine wpAnyH_take (i := 1) (oi := Oper.mk (some 22) _ _ _ _ _) (v := ?_) rfl (by kernel_rfl) (by kernel_rfl) (by kernel_rfl) (fun _ _ _ h => h) (Or.inl ⟨by rfl, ?_⟩) (by assumption) ?_
      rotate_left
      · intro w0 hSw
        clear hSw
        go_simp
        all_goals (with_reducible rfl)
      simp only [Act.put, List.setIfInBounds_toArray, List.set_cons_zero, List.set_cons_succ]
      refine wpAnyH_take (i := 2) (oi := Oper.mk (some 23) _ _ _ _ _) (v := ?_) rfl (by kernel_rfl) (by kernel_rfl) (by kernel_rfl) (fun _ _ _ h => h) (Or.inl ⟨by rfl, ?_⟩) (by assumption) ?_
      rotate_left
      · intro w0 hSw
        clear hSw
        go_simp
        all_goals (with_reducible rfl)
      simp only [Act.put, List.setIfInBounds_toArray, List.set_cons_zero, List.set_cons_succ]
      refine wpAnyH_take (i := 3) (oi := Oper.mk (some 24) _ _ _ _ _) (v := ?_) rfl (by kernel_rfl) (by kernel_rfl) (by kernel_rfl) (fun _ _ _ h => h) (Or.inl ⟨by rfl, ?_⟩) (by assumption) ?_
      rotate_left
      · intro w0 hSw
        clear hSw
        go_simp
        all_goals (with_reducible rfl)
      simp only [Act.put, List.setIfInBounds_toArray, List.set_cons_zero, List.set_cons_succ]
      refine wpAnyH_take (i := 4) (oi := Oper.mk (some 25) _ _ _ _ _) (v := ?_) rfl (by kernel_rfl) (by kernel_rfl) (by kernel_rfl) (fun _ _ _ h => h) (Or.inl ⟨by rfl, ?_⟩) (by assumption) ?_
      rotate_left
      · intro w0 hSw
        have z0 : w0.cell? ⟨b, i * 5 + 1, none⟩ = some ((.string (Pl.bs (Pl.mark (k + 5 * i + 1))) : Value)) := (Below.cell hSw (p := ⟨b, i * 5 + 1, none⟩) HGb.out).trans q1
        clear hSw
        go_simp
        all_goals (with_reducible rfl)
      simp only [Act.put, List.setIfInBounds_toArray, List.set_cons_zero, List.set_cons_succ]
      refine wpAnyH_take (i := 5) (oi := Oper.mk (some 26) _ _ _ _ _) (v := ?_) rfl (by kernel_rfl) (by kernel_rfl) (by kernel_rfl) (fun _ _ _ h => h) (Or.inl ⟨by rfl, ?_⟩) (by assumption) ?_
      rotate_left
      · intro w0 hSw
        clear hSw
        go_simp
        all_goals (with_reducible rfl)
      simp only [Act.put, List.setIfInBounds_toArray, List.set_cons_zero, List.set_cons_succ]
      refine wpAnyH_ready (rs := [6]) (by kernel_rfl) (by simp) ?_
      refine AllReadyH.cons (o := Oper.mk (some 27) _ _ _ _ _) rfl (fun K hK => ?_) AllReadyH.nil
      go_simp
      go_at_call 34
      refine (markText_at _ (k + 5 * i + 1) (by have := HZ.out; omega) (by omega) (by omega) _).mono ?_
      rintro x0 Y0 ⟨rfl, hB0⟩
      have hHeld' := Below.trans hHeld (hB0.mono hHeld.size)
      clear hB0 hHeld
      go_wp2_with fail
      refine hK.out _ _ hHeld' (fun hHeld => ?_)
      clear hK K hHeld'
      (try simp only [Act.put, List.setIfInBounds_toArray, List.set_cons_zero, List.set_cons_succ])
      refine wpAnyH_take (i := 7) (oi := Oper.mk (some 28) _ _ _ _ _) (v := ?_) rfl (by kernel_rfl) (by kernel_rfl) (by kernel_rfl) (fun _ _ _ h => h) (Or.inl ⟨by rfl, ?_⟩) (by assumption) ?_
      rotate_left
      · intro w0 hSw
        clear hSw
        go_simp
        all_goals (with_reducible rfl)
      simp only [Act.put, List.setIfInBounds_toArray, List.set_cons_zero, List.set_cons_succ]
      refine wpAnyH_done (by kernel_rfl) ?_ _
      refine NoPanic.normal ?_
      replace q0 : Y0.cell? ⟨b, i * 5, none⟩ = some (.int .i64 z : Value) := (Below.cell hHeld (p := ⟨b, i * 5, none⟩) HGb.out).trans q0
      replace q1 : Y0.cell? ⟨b, i * 5 + 1, none⟩ = some (.string (Pl.bs (Pl.mark (k + 5 * i + 1))) : Value) := (Below.cell hHeld (p := ⟨b, i * 5 + 1, none⟩) HGb.out).trans q1
      replace q2 : Y0.cell? ⟨b, i * 5 + 2, none⟩ = some (.int .i64 (z + 1 + 1) : Value) := (Below.cell hHeld (p := ⟨b, i * 5 + 2, none⟩) HGb.out).trans q2
      replace q3 : Y0.cell? ⟨b, i * 5 + 3, none⟩ = some (.int .i64 (z + 1 + 1 + 1) : Value) := (Below.cell hHeld (p := ⟨b, i * 5 + 3, none⟩) HGb.out).trans q3
      replace q4 : Y0.cell? ⟨b, i * 5 + 4, none⟩ = some (.string (Pl.bs (Pl.mark (k + 5 * i + 4))) : Value) := (Below.cell hHeld (p := ⟨b, i * 5 + 4, none⟩) HGb.out).trans q4
      replace HGb : Hid (b < Y0.heap.size) := by show _ < _; have := HGb.out; have := hHeld.size; omega
      have HP1 := hide (HP0.out.trans (hHeld.mono HP0.out.size))
      clear hHeld
      go_wp2_with fail
      refine wp_region_noPanic ?_
      refine wp_region_held_drew (S := fun W => Below Y0.heap.size Y0 W) (by kernel_rfl) (below_drew' (Below.refl _ _)) (fun hHeld => ?_)
      refine wpAnyH_take (i := 0) (oi := Oper.mk (some 51) _ _ _ _ _) (v := ?_) rfl (by kernel_rfl) (by kernel_rfl) (by kernel_rfl) (fun _ _ _ h => h) (Or.inl ⟨by rfl, ?_⟩) (by assumption) ?_
      rotate_left
      · intro w0 hSw
        clear hSw
        go_simp
        all_goals (with_reducible rfl)
      simp only [Act.put, List.setIfInBounds_toArray, List.set_cons_zero, List.set_cons_succ]
      refine wpAnyH_take (i := 1) (oi := Oper.mk (some 52) _ _ _ _ _) (v := ?_) rfl (by kernel_rfl) (by kernel_rfl) (by kernel_rfl) (fun _ _ _ h => h) (Or.inl ⟨by rfl, ?_⟩) (by assumption) ?_
      rotate_left
      · intro w0 hSw
        clear hSw
        go_simp
        all_goals (with_reducible rfl)
      simp only [Act.put, List.setIfInBounds_toArray, List.set_cons_zero, List.set_cons_succ]
      refine wpAnyH_take (i := 2) (oi := Oper.mk (some 53) _ _ _ _ _) (v := ?_) rfl (by kernel_rfl) (by kernel_rfl) (by kernel_rfl) (fun _ _ _ h => h) (Or.inl ⟨by rfl, ?_⟩) (by assumption) ?_
      rotate_left
      · intro w0 hSw
        clear hSw
        go_simp
        all_goals (with_reducible rfl)
      simp only [Act.put, List.setIfInBounds_toArray, List.set_cons_zero, List.set_cons_succ]
      refine wpAnyH_take (i := 3) (oi := Oper.mk (some 54) _ _ _ _ _) (v := ?_) rfl (by kernel_rfl) (by kernel_rfl) (by kernel_rfl) (fun _ _ _ h => h) (Or.inl ⟨by rfl, ?_⟩) (by assumption) ?_
      rotate_left
      · intro w0 hSw
        clear hSw
        go_simp
        all_goals (with_reducible rfl)
      simp only [Act.put, List.setIfInBounds_toArray, List.set_cons_zero, List.set_cons_succ]
      refine wpAnyH_take (i := 4) (oi := Oper.mk (some 55) _ _ _ _ _) (v := ?_) rfl (by kernel_rfl) (by kernel_rfl) (by kernel_rfl) (fun _ _ _ h => h) (Or.inl ⟨by rfl, ?_⟩) (by assumption) ?_
      rotate_left
      · intro w0 hSw
        clear hSw
        go_simp
        all_goals (with_reducible rfl)
      simp only [Act.put, List.setIfInBounds_toArray, List.set_cons_zero, List.set_cons_succ]
      refine wpAnyH_take (i := 5) (oi := Oper.mk (some 56) _ _ _ _ _) (v := ?_) rfl (by kernel_rfl) (by kernel_rfl) (by kernel_rfl) (fun _ _ _ h => h) (Or.inl ⟨by rfl, ?_⟩) (by assumption) ?_
      rotate_left
      · intro w0 hSw
        have z0 : w0.cell? ⟨b, i * 5 + 4, none⟩ = some ((.string (Pl.bs (Pl.mark (k + 5 * i + 4))) : Value)) := (Below.cell hSw (p := ⟨b, i * 5 + 4, none⟩) HGb.out).trans q4
        clear hSw
        go_simp
        all_goals (with_reducible rfl)
      simp only [Act.put, List.setIfInBounds_toArray, List.set_cons_zero, List.set_cons_succ]
      refine wpAnyH_take (i := 6) (oi := Oper.mk (some 57) _ _ _ _ _) (v := ?_) rfl (by kernel_rfl) (by kernel_rfl) (by kernel_rfl) (fun _ _ _ h => h) (Or.inl ⟨by rfl, ?_⟩) (by assumption) ?_
      rotate_left
      · intro w0 hSw
        clear hSw
        go_simp
        all_goals (with_reducible rfl)
      simp only [Act.put, List.setIfInBounds_toArray, List.set_cons_zero, List.set_cons_succ]
      refine wpAnyH_ready (rs := [7]) (by kernel_rfl) (by simp) ?_
      refine AllReadyH.cons (o := Oper.mk (some 58) _ _ _ _ _) rfl (fun K hK => ?_) AllReadyH.nil
      go_simp
      go_at_call 34
      refine (markText_at _ (k + 5 * i + 4) (by have := HZ.out; omega) (by omega) (by omega) _).mono ?_
      rintro x1 Y1 ⟨rfl, hB0⟩
      have hHeld' := Below.trans hHeld (hB0.mono hHeld.size)
      clear hB0 hHeld
      go_wp2_with fail
      refine hK.out _ _ hHeld' (fun hHeld => ?_)
      clear hK K hHeld'
      (try simp only [Act.put, List.setIfInBounds_toArray, List.set_cons_zero, List.set_cons_succ])
      refine wpAnyH_take (i := 8) (oi := Oper.mk (some 59) _ _ _ _ _) (v := ?_) rfl (by kernel_rfl) (by kernel_rfl) (by kernel_rfl) (fun _ _ _ h => h) (Or.inl ⟨by rfl, ?_⟩) (by assumption) ?_
      rotate_left
      · intro w0 hSw
        clear hSw
        go_simp
        all_goals (with_reducible rfl)
      simp only [Act.put, List.setIfInBounds_toArray, List.set_cons_zero, List.set_cons_succ]
      refine wpAnyH_done (by kernel_rfl) ?_ _
      refine NoPanic.normal ?_
      replace q0 : Y1.cell? ⟨b, i * 5, none⟩ = some (.int .i64 z : Value) := (Below.cell hHeld (p := ⟨b, i * 5, none⟩) HGb.out).trans q0
      replace q1 : Y1.cell? ⟨b, i * 5 + 1, none⟩ = some (.string (Pl.bs (Pl.mark (k + 5 * i + 1))) : Value) := (Below.cell hHeld (p := ⟨b, i * 5 + 1, none⟩) HGb.out).trans q1
      replace q2 : Y1.cell? ⟨b, i * 5 + 2, none⟩ = some (.int .i64 (z + 1 + 1) : Value) := (Below.cell hHeld (p := ⟨b, i * 5 + 2, none⟩) HGb.out).trans q2
      replace q3 : Y1.cell? ⟨b, i * 5 + 3, none⟩ = some (.int .i64 (z + 1 + 1 + 1) : Value) := (Below.cell hHeld (p := ⟨b, i * 5 + 3, none⟩) HGb.out).trans q3
      replace q4 : Y1.cell? ⟨b, i * 5 + 4, none⟩ = some (.string (Pl.bs (Pl.mark (k + 5 * i + 4))) : Value) := (Below.cell hHeld (p := ⟨b, i * 5 + 4, none⟩) HGb.out).trans q4
      replace HGb : Hid (b < Y1.heap.size) := by show _ < _; have := HGb.out; have := hHeld.size; omega
      have HP2 := hide (HP1.out.trans (hHeld.mono HP1.out.size))
      clear hHeld
      go_wp2_with fail
      go_roundw
      case rel => exact ⟨i + 1, _, by omega, by go_num, rfl, hide (by have := HZ.out; omega), HP2⟩
      case measure => simp [intOf]; omega
    · have hie : i = n := by omega
      have HE : Hid (z = ((k + 5 * n : Nat) : Int)) := by rw [← hie]; exact HZ
      clear hie
      go_wp2_with fail
      go_ret
      exact ⟨by rw [← HE.out]; rfl, HB.out⟩
end Go.Proofs.Ythkklmfjdjiafaa
