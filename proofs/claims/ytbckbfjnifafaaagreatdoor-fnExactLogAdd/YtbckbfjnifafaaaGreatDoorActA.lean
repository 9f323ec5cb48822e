/- The line that an act is written as, as the specification has it. -/
import Derived.Test.YtbckbfjnifafaaaGreatDoorAct1
import Derived.Test.YtbckbfjnifafaaaGreatDoorVgG
import Derived.Test.YtbckbfjnifafaaaGreatDoorVgI
import Derived.Deep.RegionHeld3
namespace Go.Proofs.YtbckbfjnifafaaaGreatDoor
open Go.RowKit
set_option linter.unusedVariables false
set_option linter.unusedSimpArgs false
/-- the text of whether it went well -/
def Pl.okL (o : Bool) : List UInt8 := if o = true then [111, 107] else [110, 111]
/-- an act's line -/
def Pl.actT (k r p : Int) (nm : ByteArray) (o : Bool) (vk vn : Int) (vt : ByteArray) (m : Int) : List UInt8 :=
  ((((((((((((Lib.itoa k ++ [32]) ++ Lib.itoa r) ++ [32]) ++ Lib.itoa p) ++ [32]) ++ nm.data.toList) ++ [32]) ++ Pl.okL o) ++ [32]) ++ Lib.itoa m) ++ [32]) ++ Pl.putV vk vn vt)
theorem no_ok {k n : Int} {t : ByteArray} (h : Pl.noVal k n t = true) : Pl.okB k n t = true := by
  simp only [Pl.noVal, Bool.and_eq_true, beq_iff_eq] at h
  obtain ⟨rfl, rfl, h3⟩ := h
  simp [Pl.okB]
  simpa using h3
theorem act_parts {k r p : Int} {nm : ByteArray} {o : Bool} {vk vn : Int} {vt : ByteArray} {m : Int} (h : Pl.actB k r p nm o vk vn vt m = true) :
    (1 ≤ k ∧ k ≤ 5) ∧ (0 ≤ r ∧ r ≤ 7) ∧ (0 ≤ p ∧ p ≤ 1000) ∧ (0 ≤ m ∧ m ≤ 1000) ∧ Pl.okB vk vn vt = true := by
  unfold Pl.actB at h
  split at h
  · simp only [Bool.and_eq_true, beq_iff_eq] at h
    exact ⟨by omega, by omega, by omega, by omega, h.2.2⟩
  · split at h
    · simp only [Bool.and_eq_true, beq_iff_eq, Pl.runB, decide_eq_true_eq] at h
      exact ⟨by omega, by omega, by omega, by omega, h.2.2.2⟩
    · split at h
      · simp only [Bool.and_eq_true, beq_iff_eq, Pl.runB, Pl.placeB, decide_eq_true_eq] at h
        exact ⟨by omega, by omega, by omega, by omega, h.2.2.2.1⟩
      · split at h
        · simp only [Bool.and_eq_true, beq_iff_eq, Pl.runB, decide_eq_true_eq] at h
          exact ⟨by omega, by omega, by omega, by omega, no_ok h.1.2.2.2.1⟩
        · split at h
          · simp only [Bool.and_eq_true, beq_iff_eq, Pl.tickB, decide_eq_true_eq] at h
            exact ⟨by omega, by omega, by omega, by omega, no_ok h.1.2.2.2.2⟩
          · cases h
theorem itoa_short {n : Int} (h0 : 0 ≤ n) (h1 : n ≤ 1000) : (Pl.bs (Lib.itoa n)).size ≤ 20 := by
  obtain ⟨u, rfl⟩ : ∃ u : Nat, n = (u : Int) := ⟨n.toNat, by omega⟩
  rw [Pl.bs_size]
  have h := dec_size u (by omega)
  unfold Lib.itoa
  split
  · omega
  · have : ((u : Int)).toNat = u := by simp
    simp only [Int.toNat_natCast] at *
    omega
theorem putV_short (vk vn : Int) (vt : ByteArray) (h : Pl.okB vk vn vt = true) (ht : vt.size ≤ 1048576) : (Pl.bs (Pl.putV vk vn vt)).size ≤ 2000000 := by
  rw [Pl.bs_size]
  unfold Pl.putV
  split
  · rename_i k1
    subst k1
    obtain ⟨h0, h1⟩ := ok_num h
    unfold Lib.itoa
    split
    · have := dec_size vn.natAbs (by omega); simp; omega
    · have := dec_size vn.toNat (by omega); simp; omega
  · split
    · simp; omega
    · simp
theorem act_code {P : Program} {c : Code} {Q : Exit → Act → World → Prop} {a : Act} {W : World} (p : World → Prop) (h0 : p W) (h : ∀ X, p X → c.wp P Q a X) : c.wp P Q a W := h W h0
theorem below_drew' {n : Nat} {w W : World} (h : Below n w W) : Below n w W.drew := ⟨h.os, h.tape, h.output, h.size, h.block⟩
theorem sz_app {a b : ByteArray} {A B : Nat} (ha : a.size ≤ A) (hb : b.size ≤ B) : (a ++ b).size ≤ A + B := by
  rw [ByteArray.size_append]; omega
set_option maxRecDepth 100000 in
set_option maxHeartbeats 3200000 in
theorem l8Line_yes (k r p : Int) (nm : ByteArray) (vk vn : Int) (vt : ByteArray) (m : Int) (hok : Pl.actB k r p nm true vk vn vt m = true) (hn : nm.size ≤ 1048576) (ht : vt.size ≤ 1048576) (w : World) :
    Calls Tryz.prog 55 #[actV k r p nm true vk vn vt m] w fun x w' => x = .returned (.string (Pl.bs (Pl.actT k r p nm true vk vn vt m))) ∧ Below w.heap.size w w' := by
  obtain ⟨⟨k0, k1⟩, ⟨r0, r1⟩, ⟨p0, p1⟩, ⟨m0, m1⟩, hvo⟩ := act_parts hok
  have hk := hide (l1Dec_any k (by omega) (by omega))
  have hr := hide (l1Dec_any r (by omega) (by omega))
  have hp := hide (l1Dec_any p (by omega) (by omega))
  have hm := hide (l1Dec_any m (by omega) (by omega))
  have hv := hide (l1Put_any vk vn vt hvo ht)
  have ztk := itoa_short (n := k) (by omega) (by omega)
  have ztr := itoa_short r0 (by omega)
  have ztp := itoa_short p0 p1
  have ztm := itoa_short m0 m1
  have ztv := putV_short vk vn vt hvo ht
  clear hok hvo ht k0 k1 r0 r1 p0 p1 m0 m1
  have HE : Hid (Pl.bs (Pl.actT k r p nm true vk vn vt m) = ((((((((((((Pl.bs (Lib.itoa k) ++ ⟨#[32]⟩) ++ Pl.bs (Lib.itoa r)) ++ ⟨#[32]⟩) ++ Pl.bs (Lib.itoa p)) ++ ⟨#[32]⟩) ++ nm) ++ ⟨#[32]⟩) ++ ⟨#[111, 107]⟩) ++ ⟨#[32]⟩) ++ Pl.bs (Lib.itoa m)) ++ ⟨#[32]⟩) ++ Pl.bs (Pl.putV vk vn vt))) := by
    show _ = _
    unfold Pl.actT
    simp only [← bs_append]
    rfl
  generalize Pl.bs (Lib.itoa k) = tk at *
  generalize Pl.bs (Lib.itoa r) = tr at *
  generalize Pl.bs (Lib.itoa p) = tp at *
  generalize Pl.bs (Lib.itoa m) = tm at *
  generalize Pl.bs (Pl.putV vk vn vt) = tv at *
  go_enter Tryz.func55, Tryz.ntmps55
  go_wp2_with fail
  refine act_code (fun X => BoxNine w.heap.size (.int .i64 k) (.int .i64 r) (.int .i64 p) (.string nm) (.bool true) (.int .i64 vk) (.int .i64 vn) (.string vt) (.int .i64 m) X ∧ Below w.heap.size w X) ⟨BoxNine.mk (Below.refl _ _), (Below.refl _ _).alloc (Nat.le_refl _) _⟩ ?_
  rintro X ⟨⟨hlt, c0, c1, c2, c3, c4, c5, c6, c7, c8⟩, hXB⟩
  refine wp_region_noPanic ?_
  refine wp_region_held_drew (S := fun W => Below X.heap.size X W) (by kernel_rfl) (below_drew' (Below.refl _ _)) (fun hHeld => ?_)
  refine wpAnyH_take (i := 0) (oi := Oper.mk (some 6) _ _ _ _ _) (v := ?_) rfl (by kernel_rfl) (by kernel_rfl) (by kernel_rfl) (fun _ _ _ h => h) (Or.inl ⟨by rfl, ?_⟩) (by assumption) ?_
  rotate_left
  · intro w0 hSw
    clear hSw
    go_simp
    all_goals (with_reducible rfl)
  simp only [Act.put, List.setIfInBounds_toArray, List.set_cons_zero, List.set_cons_succ]
  refine wpAnyH_take (i := 1) (oi := Oper.mk (some 7) _ _ _ _ _) (v := ?_) rfl (by kernel_rfl) (by kernel_rfl) (by kernel_rfl) (fun _ _ _ h => h) (Or.inl ⟨by rfl, ?_⟩) (by assumption) ?_
  rotate_left
  · intro w0 hSw
    have z0 : w0.cell? ⟨w.heap.size, 0, none⟩ = some ((.int .i64 k : Value)) := (Below.cell hSw (p := ⟨w.heap.size, 0, none⟩) hlt).trans c0
    clear hSw
    go_simp
    all_goals (with_reducible rfl)
  simp only [Act.put, List.setIfInBounds_toArray, List.set_cons_zero, List.set_cons_succ]
  refine wpAnyH_take (i := 4) (oi := Oper.mk (some 10) _ _ _ _ _) (v := ?_) rfl (by kernel_rfl) (by kernel_rfl) (by kernel_rfl) (fun _ _ _ h => h) (Or.inl ⟨by rfl, ?_⟩) (by assumption) ?_
  rotate_left
  · intro w0 hSw
    clear hSw
    go_simp
    all_goals (with_reducible rfl)
  simp only [Act.put, List.setIfInBounds_toArray, List.set_cons_zero, List.set_cons_succ]
  refine wpAnyH_take (i := 5) (oi := Oper.mk (some 11) _ _ _ _ _) (v := ?_) rfl (by kernel_rfl) (by kernel_rfl) (by kernel_rfl) (fun _ _ _ h => h) (Or.inl ⟨by rfl, ?_⟩) (by assumption) ?_
  rotate_left
  · intro w0 hSw
    have z0 : w0.cell? ⟨w.heap.size, 1, none⟩ = some ((.int .i64 r : Value)) := (Below.cell hSw (p := ⟨w.heap.size, 1, none⟩) hlt).trans c1
    clear hSw
    go_simp
    all_goals (with_reducible rfl)
  simp only [Act.put, List.setIfInBounds_toArray, List.set_cons_zero, List.set_cons_succ]
  refine wpAnyH_take (i := 9) (oi := Oper.mk (some 15) _ _ _ _ _) (v := ?_) rfl (by kernel_rfl) (by kernel_rfl) (by kernel_rfl) (fun _ _ _ h => h) (Or.inl ⟨by rfl, ?_⟩) (by assumption) ?_
  rotate_left
  · intro w0 hSw
    clear hSw
    go_simp
    all_goals (with_reducible rfl)
  simp only [Act.put, List.setIfInBounds_toArray, List.set_cons_zero, List.set_cons_succ]
  refine wpAnyH_take (i := 10) (oi := Oper.mk (some 16) _ _ _ _ _) (v := ?_) rfl (by kernel_rfl) (by kernel_rfl) (by kernel_rfl) (fun _ _ _ h => h) (Or.inl ⟨by rfl, ?_⟩) (by assumption) ?_
  rotate_left
  · intro w0 hSw
    have z0 : w0.cell? ⟨w.heap.size, 2, none⟩ = some ((.int .i64 p : Value)) := (Below.cell hSw (p := ⟨w.heap.size, 2, none⟩) hlt).trans c2
    clear hSw
    go_simp
    all_goals (with_reducible rfl)
  simp only [Act.put, List.setIfInBounds_toArray, List.set_cons_zero, List.set_cons_succ]
  refine wpAnyH_take (i := 14) (oi := Oper.mk (some 20) _ _ _ _ _) (v := ?_) rfl (by kernel_rfl) (by kernel_rfl) (by kernel_rfl) (fun _ _ _ h => h) (Or.inl ⟨by rfl, ?_⟩) (by assumption) ?_
  rotate_left
  · intro w0 hSw
    clear hSw
    go_simp
    all_goals (with_reducible rfl)
  simp only [Act.put, List.setIfInBounds_toArray, List.set_cons_zero, List.set_cons_succ]
  refine wpAnyH_take (i := 15) (oi := Oper.mk (some 21) _ _ _ _ _) (v := ?_) rfl (by kernel_rfl) (by kernel_rfl) (by kernel_rfl) (fun _ _ _ h => h) (Or.inl ⟨by rfl, ?_⟩) (by assumption) ?_
  rotate_left
  · intro w0 hSw
    have z0 : w0.cell? ⟨w.heap.size, 3, none⟩ = some ((.string nm : Value)) := (Below.cell hSw (p := ⟨w.heap.size, 3, none⟩) hlt).trans c3
    clear hSw
    go_simp
    all_goals (with_reducible rfl)
  simp only [Act.put, List.setIfInBounds_toArray, List.set_cons_zero, List.set_cons_succ]
  refine wpAnyH_take (i := 18) (oi := Oper.mk (some 24) _ _ _ _ _) (v := ?_) rfl (by kernel_rfl) (by kernel_rfl) (by kernel_rfl) (fun _ _ _ h => h) (Or.inl ⟨by rfl, ?_⟩) (by assumption) ?_
  rotate_left
  · intro w0 hSw
    clear hSw
    go_simp
    all_goals (with_reducible rfl)
  simp only [Act.put, List.setIfInBounds_toArray, List.set_cons_zero, List.set_cons_succ]
  refine wpAnyH_take (i := 21) (oi := Oper.mk (some 27) _ _ _ _ _) (v := ?_) rfl (by kernel_rfl) (by kernel_rfl) (by kernel_rfl) (fun _ _ _ h => h) (Or.inl ⟨by rfl, ?_⟩) (by assumption) ?_
  rotate_left
  · intro w0 hSw
    clear hSw
    go_simp
    all_goals (with_reducible rfl)
  simp only [Act.put, List.setIfInBounds_toArray, List.set_cons_zero, List.set_cons_succ]
  refine wpAnyH_take (i := 22) (oi := Oper.mk (some 28) _ _ _ _ _) (v := ?_) rfl (by kernel_rfl) (by kernel_rfl) (by kernel_rfl) (fun _ _ _ h => h) (Or.inl ⟨by rfl, ?_⟩) (by assumption) ?_
  rotate_left
  · intro w0 hSw
    have z0 : w0.cell? ⟨w.heap.size, 8, none⟩ = some ((.int .i64 m : Value)) := (Below.cell hSw (p := ⟨w.heap.size, 8, none⟩) hlt).trans c8
    clear hSw
    go_simp
    all_goals (with_reducible rfl)
  simp only [Act.put, List.setIfInBounds_toArray, List.set_cons_zero, List.set_cons_succ]
  refine wpAnyH_take (i := 26) (oi := Oper.mk (some 32) _ _ _ _ _) (v := ?_) rfl (by kernel_rfl) (by kernel_rfl) (by kernel_rfl) (fun _ _ _ h => h) (Or.inl ⟨by rfl, ?_⟩) (by assumption) ?_
  rotate_left
  · intro w0 hSw
    clear hSw
    go_simp
    all_goals (with_reducible rfl)
  simp only [Act.put, List.setIfInBounds_toArray, List.set_cons_zero, List.set_cons_succ]
  refine wpAnyH_take (i := 27) (oi := Oper.mk (some 33) _ _ _ _ _) (v := ?_) rfl (by kernel_rfl) (by kernel_rfl) (by kernel_rfl) (fun _ _ _ h => h) (Or.inl ⟨by rfl, ?_⟩) (by assumption) ?_
  rotate_left
  · intro w0 hSw
    have z0 : w0.cell? ⟨w.heap.size, 5, none⟩ = some ((.int .i64 vk : Value)) := (Below.cell hSw (p := ⟨w.heap.size, 5, none⟩) hlt).trans c5
    have z1 : w0.cell? ⟨w.heap.size, 6, none⟩ = some ((.int .i64 vn : Value)) := (Below.cell hSw (p := ⟨w.heap.size, 6, none⟩) hlt).trans c6
    have z2 : w0.cell? ⟨w.heap.size, 7, none⟩ = some ((.string vt : Value)) := (Below.cell hSw (p := ⟨w.heap.size, 7, none⟩) hlt).trans c7
    clear hSw
    go_simp
    all_goals (with_reducible rfl)
  simp only [Act.put, List.setIfInBounds_toArray, List.set_cons_zero, List.set_cons_succ]
  refine wpAnyH_ready (rs := [2]) (by kernel_rfl) (by simp) ?_
  refine AllReadyH.cons (o := Oper.mk (some 8) _ _ _ _ _) rfl (fun K hK => ?_) AllReadyH.nil
  go_simp
  go_at_call 56
  refine (hk.out _).mono ?_
  rintro x0 w0 ⟨rfl, hB0⟩
  have hHeld' := Below.trans hHeld (hB0.mono hHeld.size)
  clear hB0 hHeld
  go_wp2_with fail
  refine hK.out _ _ hHeld' (fun hHeld => ?_)
  clear hK K hHeld'
  (try simp only [Act.put, List.setIfInBounds_toArray, List.set_cons_zero, List.set_cons_succ])
  refine wpAnyH_take (i := 3) (oi := Oper.mk (some 9) _ _ _ _ _) (v := ?_) rfl (by kernel_rfl) (by kernel_rfl) (by kernel_rfl) (fun _ _ _ h => h) (Or.inl ⟨by rfl, ?_⟩) (by assumption) ?_
  rotate_left
  · intro w0 hSw
    clear hSw
    go_simp
    rw [if_neg (by omega)]
    all_goals (with_reducible rfl)
  simp only [Act.put, List.setIfInBounds_toArray, List.set_cons_zero, List.set_cons_succ]
  refine wpAnyH_ready (rs := [6]) (by kernel_rfl) (by simp) ?_
  refine AllReadyH.cons (o := Oper.mk (some 12) _ _ _ _ _) rfl (fun K hK => ?_) AllReadyH.nil
  go_simp
  go_at_call 56
  refine (hr.out _).mono ?_
  rintro x0 w0 ⟨rfl, hB0⟩
  have hHeld' := Below.trans hHeld (hB0.mono hHeld.size)
  clear hB0 hHeld
  go_wp2_with fail
  refine hK.out _ _ hHeld' (fun hHeld => ?_)
  clear hK K hHeld'
  (try simp only [Act.put, List.setIfInBounds_toArray, List.set_cons_zero, List.set_cons_succ])
  refine wpAnyH_take (i := 7) (oi := Oper.mk (some 13) _ _ _ _ _) (v := ?_) rfl (by kernel_rfl) (by kernel_rfl) (by kernel_rfl) (fun _ _ _ h => h) (Or.inl ⟨by rfl, ?_⟩) (by assumption) ?_
  rotate_left
  · intro w0 hSw
    clear hSw
    go_simp
    rw [if_neg (by omega)]
    all_goals (with_reducible rfl)
  simp only [Act.put, List.setIfInBounds_toArray, List.set_cons_zero, List.set_cons_succ]
  refine wpAnyH_take (i := 8) (oi := Oper.mk (some 14) _ _ _ _ _) (v := ?_) rfl (by kernel_rfl) (by kernel_rfl) (by kernel_rfl) (fun _ _ _ h => h) (Or.inl ⟨by rfl, ?_⟩) (by assumption) ?_
  rotate_left
  · intro w0 hSw
    clear hSw
    go_simp
    rw [if_neg (by omega)]
    all_goals (with_reducible rfl)
  simp only [Act.put, List.setIfInBounds_toArray, List.set_cons_zero, List.set_cons_succ]
  refine wpAnyH_ready (rs := [11]) (by kernel_rfl) (by simp) ?_
  refine AllReadyH.cons (o := Oper.mk (some 17) _ _ _ _ _) rfl (fun K hK => ?_) AllReadyH.nil
  go_simp
  go_at_call 56
  refine (hp.out _).mono ?_
  rintro x0 w0 ⟨rfl, hB0⟩
  have hHeld' := Below.trans hHeld (hB0.mono hHeld.size)
  clear hB0 hHeld
  go_wp2_with fail
  refine hK.out _ _ hHeld' (fun hHeld => ?_)
  clear hK K hHeld'
  (try simp only [Act.put, List.setIfInBounds_toArray, List.set_cons_zero, List.set_cons_succ])
  refine wpAnyH_take (i := 12) (oi := Oper.mk (some 18) _ _ _ _ _) (v := ?_) rfl (by kernel_rfl) (by kernel_rfl) (by kernel_rfl) (fun _ _ _ h => h) (Or.inl ⟨by rfl, ?_⟩) (by assumption) ?_
  rotate_left
  · intro w0 hSw
    clear hSw
    go_simp
    rw [if_neg (by omega)]
    all_goals (with_reducible rfl)
  simp only [Act.put, List.setIfInBounds_toArray, List.set_cons_zero, List.set_cons_succ]
  refine wpAnyH_take (i := 13) (oi := Oper.mk (some 19) _ _ _ _ _) (v := ?_) rfl (by kernel_rfl) (by kernel_rfl) (by kernel_rfl) (fun _ _ _ h => h) (Or.inl ⟨by rfl, ?_⟩) (by assumption) ?_
  rotate_left
  · intro w0 hSw
    clear hSw
    go_simp
    rw [if_neg (by omega)]
    all_goals (with_reducible rfl)
  simp only [Act.put, List.setIfInBounds_toArray, List.set_cons_zero, List.set_cons_succ]
  refine wpAnyH_take (i := 16) (oi := Oper.mk (some 22) _ _ _ _ _) (v := ?_) rfl (by kernel_rfl) (by kernel_rfl) (by kernel_rfl) (fun _ _ _ h => h) (Or.inl ⟨by rfl, ?_⟩) (by assumption) ?_
  rotate_left
  · intro w0 hSw
    clear hSw
    go_simp
    rw [if_neg (by omega)]
    all_goals (with_reducible rfl)
  simp only [Act.put, List.setIfInBounds_toArray, List.set_cons_zero, List.set_cons_succ]
  refine wpAnyH_take (i := 17) (oi := Oper.mk (some 23) _ _ _ _ _) (v := ?_) rfl (by kernel_rfl) (by kernel_rfl) (by kernel_rfl) (fun _ _ _ h => h) (Or.inl ⟨by rfl, ?_⟩) (by assumption) ?_
  rotate_left
  · intro w0 hSw
    clear hSw
    go_simp
    rw [if_neg (by omega)]
    all_goals (with_reducible rfl)
  simp only [Act.put, List.setIfInBounds_toArray, List.set_cons_zero, List.set_cons_succ]
  refine wpAnyH_take (i := 19) (oi := Oper.mk (some 25) _ _ _ _ _) (v := ?_) rfl (by kernel_rfl) (by kernel_rfl) (by kernel_rfl) (fun _ _ _ h => h) (Or.inl ⟨by rfl, ?_⟩) (by assumption) ?_
  rotate_left
  · intro w0 hSw
    clear hSw
    go_simp
    rw [if_neg (by omega)]
    all_goals (with_reducible rfl)
  simp only [Act.put, List.setIfInBounds_toArray, List.set_cons_zero, List.set_cons_succ]
  refine wpAnyH_take (i := 20) (oi := Oper.mk (some 26) _ _ _ _ _) (v := ?_) rfl (by kernel_rfl) (by kernel_rfl) (by kernel_rfl) (fun _ _ _ h => h) (Or.inl ⟨by rfl, ?_⟩) (by assumption) ?_
  rotate_left
  · intro w0 hSw
    clear hSw
    go_simp
    rw [if_neg (by omega)]
    all_goals (with_reducible rfl)
  simp only [Act.put, List.setIfInBounds_toArray, List.set_cons_zero, List.set_cons_succ]
  refine wpAnyH_ready (rs := [23]) (by kernel_rfl) (by simp) ?_
  refine AllReadyH.cons (o := Oper.mk (some 29) _ _ _ _ _) rfl (fun K hK => ?_) AllReadyH.nil
  go_simp
  go_at_call 56
  refine (hm.out _).mono ?_
  rintro x0 w0 ⟨rfl, hB0⟩
  have hHeld' := Below.trans hHeld (hB0.mono hHeld.size)
  clear hB0 hHeld
  go_wp2_with fail
  refine hK.out _ _ hHeld' (fun hHeld => ?_)
  clear hK K hHeld'
  (try simp only [Act.put, List.setIfInBounds_toArray, List.set_cons_zero, List.set_cons_succ])
  refine wpAnyH_take (i := 24) (oi := Oper.mk (some 30) _ _ _ _ _) (v := ?_) rfl (by kernel_rfl) (by kernel_rfl) (by kernel_rfl) (fun _ _ _ h => h) (Or.inl ⟨by rfl, ?_⟩) (by assumption) ?_
  rotate_left
  · intro w0 hSw
    clear hSw
    go_simp
    rw [if_neg (by omega)]
    all_goals (with_reducible rfl)
  simp only [Act.put, List.setIfInBounds_toArray, List.set_cons_zero, List.set_cons_succ]
  refine wpAnyH_take (i := 25) (oi := Oper.mk (some 31) _ _ _ _ _) (v := ?_) rfl (by kernel_rfl) (by kernel_rfl) (by kernel_rfl) (fun _ _ _ h => h) (Or.inl ⟨by rfl, ?_⟩) (by assumption) ?_
  rotate_left
  · intro w0 hSw
    clear hSw
    go_simp
    rw [if_neg (by omega)]
    all_goals (with_reducible rfl)
  simp only [Act.put, List.setIfInBounds_toArray, List.set_cons_zero, List.set_cons_succ]
  refine wpAnyH_ready (rs := [28]) (by kernel_rfl) (by simp) ?_
  refine AllReadyH.cons (o := Oper.mk (some 34) _ _ _ _ _) rfl (fun K hK => ?_) AllReadyH.nil
  go_simp
  go_at_call 69
  refine (hv.out _).mono ?_
  rintro x0 w0 ⟨rfl, hB0⟩
  have hHeld' := Below.trans hHeld (hB0.mono hHeld.size)
  clear hB0 hHeld
  go_wp2_with fail
  refine hK.out _ _ hHeld' (fun hHeld => ?_)
  clear hK K hHeld'
  (try simp only [Act.put, List.setIfInBounds_toArray, List.set_cons_zero, List.set_cons_succ])
  refine wpAnyH_take (i := 29) (oi := Oper.mk (some 35) _ _ _ _ _) (v := ?_) rfl (by kernel_rfl) (by kernel_rfl) (by kernel_rfl) (fun _ _ _ h => h) (Or.inl ⟨by rfl, ?_⟩) (by assumption) ?_
  rotate_left
  · intro w0 hSw
    clear hSw
    go_simp
    rw [if_neg (by omega)]
    all_goals (with_reducible rfl)
  simp only [Act.put, List.setIfInBounds_toArray, List.set_cons_zero, List.set_cons_succ]
  refine wpAnyH_take (i := 30) (oi := Oper.mk (some 2) _ _ _ _ _) (v := ?_) rfl (by kernel_rfl) (by kernel_rfl) (by kernel_rfl) (fun _ _ _ h => h) (Or.inl ⟨by rfl, ?_⟩) (by assumption) ?_
  rotate_left
  · intro w0 hSw
    clear hSw
    go_simp
    all_goals (with_reducible rfl)
  simp only [Act.put, List.setIfInBounds_toArray, List.set_cons_zero, List.set_cons_succ]
  refine wpAnyH_done (by kernel_rfl) ?_ _
  refine NoPanic.normal ?_
  have HF := hide (hXB.trans (hHeld.mono hXB.size))
  clear hHeld
  go_wp2_with fail
  go_ret
  exact ⟨by rw [HE.out]; rfl, HF.out⟩
set_option maxRecDepth 100000 in
set_option maxHeartbeats 3200000 in
theorem l8Line_no (k r p : Int) (nm : ByteArray) (vk vn : Int) (vt : ByteArray) (m : Int) (hok : Pl.actB k r p nm false vk vn vt m = true) (hn : nm.size ≤ 1048576) (ht : vt.size ≤ 1048576) (w : World) :
    Calls Tryz.prog 55 #[actV k r p nm false vk vn vt m] w fun x w' => x = .returned (.string (Pl.bs (Pl.actT k r p nm false vk vn vt m))) ∧ Below w.heap.size w w' := by
  obtain ⟨⟨k0, k1⟩, ⟨r0, r1⟩, ⟨p0, p1⟩, ⟨m0, m1⟩, hvo⟩ := act_parts hok
  have hk := hide (l1Dec_any k (by omega) (by omega))
  have hr := hide (l1Dec_any r (by omega) (by omega))
  have hp := hide (l1Dec_any p (by omega) (by omega))
  have hm := hide (l1Dec_any m (by omega) (by omega))
  have hv := hide (l1Put_any vk vn vt hvo ht)
  have ztk := itoa_short (n := k) (by omega) (by omega)
  have ztr := itoa_short r0 (by omega)
  have ztp := itoa_short p0 p1
  have ztm := itoa_short m0 m1
  have ztv := putV_short vk vn vt hvo ht
  clear hok hvo ht k0 k1 r0 r1 p0 p1 m0 m1
  have HE : Hid (Pl.bs (Pl.actT k r p nm false vk vn vt m) = ((((((((((((Pl.bs (Lib.itoa k) ++ ⟨#[32]⟩) ++ Pl.bs (Lib.itoa r)) ++ ⟨#[32]⟩) ++ Pl.bs (Lib.itoa p)) ++ ⟨#[32]⟩) ++ nm) ++ ⟨#[32]⟩) ++ ⟨#[110, 111]⟩) ++ ⟨#[32]⟩) ++ Pl.bs (Lib.itoa m)) ++ ⟨#[32]⟩) ++ Pl.bs (Pl.putV vk vn vt))) := by
    show _ = _
    unfold Pl.actT
    simp only [← bs_append]
    rfl
  generalize Pl.bs (Lib.itoa k) = tk at *
  generalize Pl.bs (Lib.itoa r) = tr at *
  generalize Pl.bs (Lib.itoa p) = tp at *
  generalize Pl.bs (Lib.itoa m) = tm at *
  generalize Pl.bs (Pl.putV vk vn vt) = tv at *
  go_enter Tryz.func55, Tryz.ntmps55
  go_wp2_with fail
  refine act_code (fun X => BoxNine w.heap.size (.int .i64 k) (.int .i64 r) (.int .i64 p) (.string nm) (.bool false) (.int .i64 vk) (.int .i64 vn) (.string vt) (.int .i64 m) X ∧ Below w.heap.size w X) ⟨BoxNine.mk (Below.refl _ _), (Below.refl _ _).alloc (Nat.le_refl _) _⟩ ?_
  rintro X ⟨⟨hlt, c0, c1, c2, c3, c4, c5, c6, c7, c8⟩, hXB⟩
  refine wp_region_noPanic ?_
  refine wp_region_held_drew (S := fun W => Below X.heap.size X W) (by kernel_rfl) (below_drew' (Below.refl _ _)) (fun hHeld => ?_)
  refine wpAnyH_take (i := 0) (oi := Oper.mk (some 6) _ _ _ _ _) (v := ?_) rfl (by kernel_rfl) (by kernel_rfl) (by kernel_rfl) (fun _ _ _ h => h) (Or.inl ⟨by rfl, ?_⟩) (by assumption) ?_
  rotate_left
  · intro w0 hSw
    clear hSw
    go_simp
    all_goals (with_reducible rfl)
  simp only [Act.put, List.setIfInBounds_toArray, List.set_cons_zero, List.set_cons_succ]
  refine wpAnyH_take (i := 1) (oi := Oper.mk (some 7) _ _ _ _ _) (v := ?_) rfl (by kernel_rfl) (by kernel_rfl) (by kernel_rfl) (fun _ _ _ h => h) (Or.inl ⟨by rfl, ?_⟩) (by assumption) ?_
  rotate_left
  · intro w0 hSw
    have z0 : w0.cell? ⟨w.heap.size, 0, none⟩ = some ((.int .i64 k : Value)) := (Below.cell hSw (p := ⟨w.heap.size, 0, none⟩) hlt).trans c0
    clear hSw
    go_simp
    all_goals (with_reducible rfl)
  simp only [Act.put, List.setIfInBounds_toArray, List.set_cons_zero, List.set_cons_succ]
  refine wpAnyH_take (i := 4) (oi := Oper.mk (some 10) _ _ _ _ _) (v := ?_) rfl (by kernel_rfl) (by kernel_rfl) (by kernel_rfl) (fun _ _ _ h => h) (Or.inl ⟨by rfl, ?_⟩) (by assumption) ?_
  rotate_left
  · intro w0 hSw
    clear hSw
    go_simp
    all_goals (with_reducible rfl)
  simp only [Act.put, List.setIfInBounds_toArray, List.set_cons_zero, List.set_cons_succ]
  refine wpAnyH_take (i := 5) (oi := Oper.mk (some 11) _ _ _ _ _) (v := ?_) rfl (by kernel_rfl) (by kernel_rfl) (by kernel_rfl) (fun _ _ _ h => h) (Or.inl ⟨by rfl, ?_⟩) (by assumption) ?_
  rotate_left
  · intro w0 hSw
    have z0 : w0.cell? ⟨w.heap.size, 1, none⟩ = some ((.int .i64 r : Value)) := (Below.cell hSw (p := ⟨w.heap.size, 1, none⟩) hlt).trans c1
    clear hSw
    go_simp
    all_goals (with_reducible rfl)
  simp only [Act.put, List.setIfInBounds_toArray, List.set_cons_zero, List.set_cons_succ]
  refine wpAnyH_take (i := 9) (oi := Oper.mk (some 15) _ _ _ _ _) (v := ?_) rfl (by kernel_rfl) (by kernel_rfl) (by kernel_rfl) (fun _ _ _ h => h) (Or.inl ⟨by rfl, ?_⟩) (by assumption) ?_
  rotate_left
  · intro w0 hSw
    clear hSw
    go_simp
    all_goals (with_reducible rfl)
  simp only [Act.put, List.setIfInBounds_toArray, List.set_cons_zero, List.set_cons_succ]
  refine wpAnyH_take (i := 10) (oi := Oper.mk (some 16) _ _ _ _ _) (v := ?_) rfl (by kernel_rfl) (by kernel_rfl) (by kernel_rfl) (fun _ _ _ h => h) (Or.inl ⟨by rfl, ?_⟩) (by assumption) ?_
  rotate_left
  · intro w0 hSw
    have z0 : w0.cell? ⟨w.heap.size, 2, none⟩ = some ((.int .i64 p : Value)) := (Below.cell hSw (p := ⟨w.heap.size, 2, none⟩) hlt).trans c2
    clear hSw
    go_simp
    all_goals (with_reducible rfl)
  simp only [Act.put, List.setIfInBounds_toArray, List.set_cons_zero, List.set_cons_succ]
  refine wpAnyH_take (i := 14) (oi := Oper.mk (some 20) _ _ _ _ _) (v := ?_) rfl (by kernel_rfl) (by kernel_rfl) (by kernel_rfl) (fun _ _ _ h => h) (Or.inl ⟨by rfl, ?_⟩) (by assumption) ?_
  rotate_left
  · intro w0 hSw
    clear hSw
    go_simp
    all_goals (with_reducible rfl)
  simp only [Act.put, List.setIfInBounds_toArray, List.set_cons_zero, List.set_cons_succ]
  refine wpAnyH_take (i := 15) (oi := Oper.mk (some 21) _ _ _ _ _) (v := ?_) rfl (by kernel_rfl) (by kernel_rfl) (by kernel_rfl) (fun _ _ _ h => h) (Or.inl ⟨by rfl, ?_⟩) (by assumption) ?_
  rotate_left
  · intro w0 hSw
    have z0 : w0.cell? ⟨w.heap.size, 3, none⟩ = some ((.string nm : Value)) := (Below.cell hSw (p := ⟨w.heap.size, 3, none⟩) hlt).trans c3
    clear hSw
    go_simp
    all_goals (with_reducible rfl)
  simp only [Act.put, List.setIfInBounds_toArray, List.set_cons_zero, List.set_cons_succ]
  refine wpAnyH_take (i := 18) (oi := Oper.mk (some 24) _ _ _ _ _) (v := ?_) rfl (by kernel_rfl) (by kernel_rfl) (by kernel_rfl) (fun _ _ _ h => h) (Or.inl ⟨by rfl, ?_⟩) (by assumption) ?_
  rotate_left
  · intro w0 hSw
    clear hSw
    go_simp
    all_goals (with_reducible rfl)
  simp only [Act.put, List.setIfInBounds_toArray, List.set_cons_zero, List.set_cons_succ]
  refine wpAnyH_take (i := 21) (oi := Oper.mk (some 27) _ _ _ _ _) (v := ?_) rfl (by kernel_rfl) (by kernel_rfl) (by kernel_rfl) (fun _ _ _ h => h) (Or.inl ⟨by rfl, ?_⟩) (by assumption) ?_
  rotate_left
  · intro w0 hSw
    clear hSw
    go_simp
    all_goals (with_reducible rfl)
  simp only [Act.put, List.setIfInBounds_toArray, List.set_cons_zero, List.set_cons_succ]
  refine wpAnyH_take (i := 22) (oi := Oper.mk (some 28) _ _ _ _ _) (v := ?_) rfl (by kernel_rfl) (by kernel_rfl) (by kernel_rfl) (fun _ _ _ h => h) (Or.inl ⟨by rfl, ?_⟩) (by assumption) ?_
  rotate_left
  · intro w0 hSw
    have z0 : w0.cell? ⟨w.heap.size, 8, none⟩ = some ((.int .i64 m : Value)) := (Below.cell hSw (p := ⟨w.heap.size, 8, none⟩) hlt).trans c8
    clear hSw
    go_simp
    all_goals (with_reducible rfl)
  simp only [Act.put, List.setIfInBounds_toArray, List.set_cons_zero, List.set_cons_succ]
  refine wpAnyH_take (i := 26) (oi := Oper.mk (some 32) _ _ _ _ _) (v := ?_) rfl (by kernel_rfl) (by kernel_rfl) (by kernel_rfl) (fun _ _ _ h => h) (Or.inl ⟨by rfl, ?_⟩) (by assumption) ?_
  rotate_left
  · intro w0 hSw
    clear hSw
    go_simp
    all_goals (with_reducible rfl)
  simp only [Act.put, List.setIfInBounds_toArray, List.set_cons_zero, List.set_cons_succ]
  refine wpAnyH_take (i := 27) (oi := Oper.mk (some 33) _ _ _ _ _) (v := ?_) rfl (by kernel_rfl) (by kernel_rfl) (by kernel_rfl) (fun _ _ _ h => h) (Or.inl ⟨by rfl, ?_⟩) (by assumption) ?_
  rotate_left
  · intro w0 hSw
    have z0 : w0.cell? ⟨w.heap.size, 5, none⟩ = some ((.int .i64 vk : Value)) := (Below.cell hSw (p := ⟨w.heap.size, 5, none⟩) hlt).trans c5
    have z1 : w0.cell? ⟨w.heap.size, 6, none⟩ = some ((.int .i64 vn : Value)) := (Below.cell hSw (p := ⟨w.heap.size, 6, none⟩) hlt).trans c6
    have z2 : w0.cell? ⟨w.heap.size, 7, none⟩ = some ((.string vt : Value)) := (Below.cell hSw (p := ⟨w.heap.size, 7, none⟩) hlt).trans c7
    clear hSw
    go_simp
    all_goals (with_reducible rfl)
  simp only [Act.put, List.setIfInBounds_toArray, List.set_cons_zero, List.set_cons_succ]
  refine wpAnyH_ready (rs := [2]) (by kernel_rfl) (by simp) ?_
  refine AllReadyH.cons (o := Oper.mk (some 8) _ _ _ _ _) rfl (fun K hK => ?_) AllReadyH.nil
  go_simp
  go_at_call 56
  refine (hk.out _).mono ?_
  rintro x0 w0 ⟨rfl, hB0⟩
  have hHeld' := Below.trans hHeld (hB0.mono hHeld.size)
  clear hB0 hHeld
  go_wp2_with fail
  refine hK.out _ _ hHeld' (fun hHeld => ?_)
  clear hK K hHeld'
  (try simp only [Act.put, List.setIfInBounds_toArray, List.set_cons_zero, List.set_cons_succ])
  refine wpAnyH_take (i := 3) (oi := Oper.mk (some 9) _ _ _ _ _) (v := ?_) rfl (by kernel_rfl) (by kernel_rfl) (by kernel_rfl) (fun _ _ _ h => h) (Or.inl ⟨by rfl, ?_⟩) (by assumption) ?_
  rotate_left
  · intro w0 hSw
    clear hSw
    go_simp
    rw [if_neg (by omega)]
    all_goals (with_reducible rfl)
  simp only [Act.put, List.setIfInBounds_toArray, List.set_cons_zero, List.set_cons_succ]
  refine wpAnyH_ready (rs := [6]) (by kernel_rfl) (by simp) ?_
  refine AllReadyH.cons (o := Oper.mk (some 12) _ _ _ _ _) rfl (fun K hK => ?_) AllReadyH.nil
  go_simp
  go_at_call 56
  refine (hr.out _).mono ?_
  rintro x0 w0 ⟨rfl, hB0⟩
  have hHeld' := Below.trans hHeld (hB0.mono hHeld.size)
  clear hB0 hHeld
  go_wp2_with fail
  refine hK.out _ _ hHeld' (fun hHeld => ?_)
  clear hK K hHeld'
  (try simp only [Act.put, List.setIfInBounds_toArray, List.set_cons_zero, List.set_cons_succ])
  refine wpAnyH_take (i := 7) (oi := Oper.mk (some 13) _ _ _ _ _) (v := ?_) rfl (by kernel_rfl) (by kernel_rfl) (by kernel_rfl) (fun _ _ _ h => h) (Or.inl ⟨by rfl, ?_⟩) (by assumption) ?_
  rotate_left
  · intro w0 hSw
    clear hSw
    go_simp
    rw [if_neg (by omega)]
    all_goals (with_reducible rfl)
  simp only [Act.put, List.setIfInBounds_toArray, List.set_cons_zero, List.set_cons_succ]
  refine wpAnyH_take (i := 8) (oi := Oper.mk (some 14) _ _ _ _ _) (v := ?_) rfl (by kernel_rfl) (by kernel_rfl) (by kernel_rfl) (fun _ _ _ h => h) (Or.inl ⟨by rfl, ?_⟩) (by assumption) ?_
  rotate_left
  · intro w0 hSw
    clear hSw
    go_simp
    rw [if_neg (by omega)]
    all_goals (with_reducible rfl)
  simp only [Act.put, List.setIfInBounds_toArray, List.set_cons_zero, List.set_cons_succ]
  refine wpAnyH_ready (rs := [11]) (by kernel_rfl) (by simp) ?_
  refine AllReadyH.cons (o := Oper.mk (some 17) _ _ _ _ _) rfl (fun K hK => ?_) AllReadyH.nil
  go_simp
  go_at_call 56
  refine (hp.out _).mono ?_
  rintro x0 w0 ⟨rfl, hB0⟩
  have hHeld' := Below.trans hHeld (hB0.mono hHeld.size)
  clear hB0 hHeld
  go_wp2_with fail
  refine hK.out _ _ hHeld' (fun hHeld => ?_)
  clear hK K hHeld'
  (try simp only [Act.put, List.setIfInBounds_toArray, List.set_cons_zero, List.set_cons_succ])
  refine wpAnyH_take (i := 12) (oi := Oper.mk (some 18) _ _ _ _ _) (v := ?_) rfl (by kernel_rfl) (by kernel_rfl) (by kernel_rfl) (fun _ _ _ h => h) (Or.inl ⟨by rfl, ?_⟩) (by assumption) ?_
  rotate_left
  · intro w0 hSw
    clear hSw
    go_simp
    rw [if_neg (by omega)]
    all_goals (with_reducible rfl)
  simp only [Act.put, List.setIfInBounds_toArray, List.set_cons_zero, List.set_cons_succ]
  refine wpAnyH_take (i := 13) (oi := Oper.mk (some 19) _ _ _ _ _) (v := ?_) rfl (by kernel_rfl) (by kernel_rfl) (by kernel_rfl) (fun _ _ _ h => h) (Or.inl ⟨by rfl, ?_⟩) (by assumption) ?_
  rotate_left
  · intro w0 hSw
    clear hSw
    go_simp
    rw [if_neg (by omega)]
    all_goals (with_reducible rfl)
  simp only [Act.put, List.setIfInBounds_toArray, List.set_cons_zero, List.set_cons_succ]
  refine wpAnyH_take (i := 16) (oi := Oper.mk (some 22) _ _ _ _ _) (v := ?_) rfl (by kernel_rfl) (by kernel_rfl) (by kernel_rfl) (fun _ _ _ h => h) (Or.inl ⟨by rfl, ?_⟩) (by assumption) ?_
  rotate_left
  · intro w0 hSw
    clear hSw
    go_simp
    rw [if_neg (by omega)]
    all_goals (with_reducible rfl)
  simp only [Act.put, List.setIfInBounds_toArray, List.set_cons_zero, List.set_cons_succ]
  refine wpAnyH_take (i := 17) (oi := Oper.mk (some 23) _ _ _ _ _) (v := ?_) rfl (by kernel_rfl) (by kernel_rfl) (by kernel_rfl) (fun _ _ _ h => h) (Or.inl ⟨by rfl, ?_⟩) (by assumption) ?_
  rotate_left
  · intro w0 hSw
    clear hSw
    go_simp
    rw [if_neg (by omega)]
    all_goals (with_reducible rfl)
  simp only [Act.put, List.setIfInBounds_toArray, List.set_cons_zero, List.set_cons_succ]
  refine wpAnyH_take (i := 19) (oi := Oper.mk (some 25) _ _ _ _ _) (v := ?_) rfl (by kernel_rfl) (by kernel_rfl) (by kernel_rfl) (fun _ _ _ h => h) (Or.inl ⟨by rfl, ?_⟩) (by assumption) ?_
  rotate_left
  · intro w0 hSw
    clear hSw
    go_simp
    rw [if_neg (by omega)]
    all_goals (with_reducible rfl)
  simp only [Act.put, List.setIfInBounds_toArray, List.set_cons_zero, List.set_cons_succ]
  refine wpAnyH_take (i := 20) (oi := Oper.mk (some 26) _ _ _ _ _) (v := ?_) rfl (by kernel_rfl) (by kernel_rfl) (by kernel_rfl) (fun _ _ _ h => h) (Or.inl ⟨by rfl, ?_⟩) (by assumption) ?_
  rotate_left
  · intro w0 hSw
    clear hSw
    go_simp
    rw [if_neg (by omega)]
    all_goals (with_reducible rfl)
  simp only [Act.put, List.setIfInBounds_toArray, List.set_cons_zero, List.set_cons_succ]
  refine wpAnyH_ready (rs := [23]) (by kernel_rfl) (by simp) ?_
  refine AllReadyH.cons (o := Oper.mk (some 29) _ _ _ _ _) rfl (fun K hK => ?_) AllReadyH.nil
  go_simp
  go_at_call 56
  refine (hm.out _).mono ?_
  rintro x0 w0 ⟨rfl, hB0⟩
  have hHeld' := Below.trans hHeld (hB0.mono hHeld.size)
  clear hB0 hHeld
  go_wp2_with fail
  refine hK.out _ _ hHeld' (fun hHeld => ?_)
  clear hK K hHeld'
  (try simp only [Act.put, List.setIfInBounds_toArray, List.set_cons_zero, List.set_cons_succ])
  refine wpAnyH_take (i := 24) (oi := Oper.mk (some 30) _ _ _ _ _) (v := ?_) rfl (by kernel_rfl) (by kernel_rfl) (by kernel_rfl) (fun _ _ _ h => h) (Or.inl ⟨by rfl, ?_⟩) (by assumption) ?_
  rotate_left
  · intro w0 hSw
    clear hSw
    go_simp
    rw [if_neg (by omega)]
    all_goals (with_reducible rfl)
  simp only [Act.put, List.setIfInBounds_toArray, List.set_cons_zero, List.set_cons_succ]
  refine wpAnyH_take (i := 25) (oi := Oper.mk (some 31) _ _ _ _ _) (v := ?_) rfl (by kernel_rfl) (by kernel_rfl) (by kernel_rfl) (fun _ _ _ h => h) (Or.inl ⟨by rfl, ?_⟩) (by assumption) ?_
  rotate_left
  · intro w0 hSw
    clear hSw
    go_simp
    rw [if_neg (by omega)]
    all_goals (with_reducible rfl)
  simp only [Act.put, List.setIfInBounds_toArray, List.set_cons_zero, List.set_cons_succ]
  refine wpAnyH_ready (rs := [28]) (by kernel_rfl) (by simp) ?_
  refine AllReadyH.cons (o := Oper.mk (some 34) _ _ _ _ _) rfl (fun K hK => ?_) AllReadyH.nil
  go_simp
  go_at_call 69
  refine (hv.out _).mono ?_
  rintro x0 w0 ⟨rfl, hB0⟩
  have hHeld' := Below.trans hHeld (hB0.mono hHeld.size)
  clear hB0 hHeld
  go_wp2_with fail
  refine hK.out _ _ hHeld' (fun hHeld => ?_)
  clear hK K hHeld'
  (try simp only [Act.put, List.setIfInBounds_toArray, List.set_cons_zero, List.set_cons_succ])
  refine wpAnyH_take (i := 29) (oi := Oper.mk (some 35) _ _ _ _ _) (v := ?_) rfl (by kernel_rfl) (by kernel_rfl) (by kernel_rfl) (fun _ _ _ h => h) (Or.inl ⟨by rfl, ?_⟩) (by assumption) ?_
  rotate_left
  · intro w0 hSw
    clear hSw
    go_simp
    rw [if_neg (by omega)]
    all_goals (with_reducible rfl)
  simp only [Act.put, List.setIfInBounds_toArray, List.set_cons_zero, List.set_cons_succ]
  refine wpAnyH_take (i := 30) (oi := Oper.mk (some 2) _ _ _ _ _) (v := ?_) rfl (by kernel_rfl) (by kernel_rfl) (by kernel_rfl) (fun _ _ _ h => h) (Or.inl ⟨by rfl, ?_⟩) (by assumption) ?_
  rotate_left
  · intro w0 hSw
    clear hSw
    go_simp
    all_goals (with_reducible rfl)
  simp only [Act.put, List.setIfInBounds_toArray, List.set_cons_zero, List.set_cons_succ]
  refine wpAnyH_done (by kernel_rfl) ?_ _
  refine NoPanic.normal ?_
  have HF := hide (hXB.trans (hHeld.mono hXB.size))
  clear hHeld
  go_wp2_with fail
  go_ret
  exact ⟨by rw [HE.out]; rfl, HF.out⟩
theorem l8Line_any (k r p : Int) (nm : ByteArray) (o : Bool) (vk vn : Int) (vt : ByteArray) (m : Int) (hok : Pl.actB k r p nm o vk vn vt m = true) (hn : nm.size ≤ 1048576) (ht : vt.size ≤ 1048576) (w : World) :
    Calls Tryz.prog 55 #[actV k r p nm o vk vn vt m] w fun x w' => x = .returned (.string (Pl.bs (Pl.actT k r p nm o vk vn vt m))) ∧ Below w.heap.size w w' := by
  cases o
  · exact l8Line_no k r p nm vk vn vt m hok hn ht w
  · exact l8Line_yes k r p nm vk vn vt m hok hn ht w
end Go.Proofs.YtbckbfjnifafaaaGreatDoor
