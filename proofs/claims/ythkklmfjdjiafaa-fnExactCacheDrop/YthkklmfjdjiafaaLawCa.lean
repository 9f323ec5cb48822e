/- The law on a cache without a run, walked. -/
import Derived.Test.YthkklmfjdjiafaaCaK
namespace Go.Proofs.Ythkklmfjdjiafaa
open Go.RowKit
set_option linter.unusedVariables false
set_option linter.unusedSimpArgs false
/-- four blocks that stay -/
structure Four (b0 b4 b5 b6 : Nat) (O0 O4 O5 O6 : Obj) (W : World) : Prop where
  x : W.heap[b0]? = some O0
  w : W.heap[b4]? = some O4
  y : W.heap[b5]? = some O5
  g : W.heap[b6]? = some O6
theorem Four.later {b0 b4 b5 b6 : Nat} {O0 O4 O5 O6 : Obj} {W W1 : World} (h : Four b0 b4 b5 b6 O0 O4 O5 O6 W) (hB : Below W.heap.size W W1) : Four b0 b4 b5 b6 O0 O4 O5 O6 W1 :=
  ⟨(hB.block _ (Array.getElem?_eq_some_iff.1 h.x).1).trans h.x, (hB.block _ (Array.getElem?_eq_some_iff.1 h.w).1).trans h.w, (hB.block _ (Array.getElem?_eq_some_iff.1 h.y).1).trans h.y, (hB.block _ (Array.getElem?_eq_some_iff.1 h.g).1).trans h.g⟩
theorem Four.mid {b0 b4 b5 b6 lo hi : Nat} {O0 O4 O5 O6 : Obj} {W W1 : World} (h : Four b0 b4 b5 b6 O0 O4 O5 O6 W) (hM : Mid lo hi W W1) (h0 : b0 < lo ∨ hi ≤ b0) (h4 : b4 < lo ∨ hi ≤ b4) (h5 : b5 < lo ∨ hi ≤ b5) (h6 : b6 < lo ∨ hi ≤ b6) : Four b0 b4 b5 b6 O0 O4 O5 O6 W1 :=
  ⟨(hM.block _ (Array.getElem?_eq_some_iff.1 h.x).1 h0).trans h.x, (hM.block _ (Array.getElem?_eq_some_iff.1 h.w).1 h4).trans h.w, (hM.block _ (Array.getElem?_eq_some_iff.1 h.y).1 h5).trans h.y, (hM.block _ (Array.getElem?_eq_some_iff.1 h.g).1 h6).trans h.g⟩
set_option maxRecDepth 100000 in
set_option maxHeartbeats 6400000 in
theorem lawCacheDrop_any (l : List It) (r : Int) (hwf : ∀ p ∈ l, p.Wf) (v : Value) (w : World) (hr : IRow w.heap.size w l v) :
    Calls Try.prog 5 #[.agg #[v], .int .i64 r] w fun e w' => e = .returned (.bool true) ∧ Below w.heap.size w w' := by
  have hb0 : Below w.heap.size w (w.alloc (.cells #[v] 29)) := (Below.refl _ _).alloc (Nat.le_refl _) _
  have hs := hide (szCache_any l hwf v _ ((hr.later hb0).up hb0.size))
  have HR := hide hr
  clear hb0 hr hwf
  go_enter Try.func5, Try.ntmps5
  go_wp2_with fail
  refine hs.out.mono ?_
  rintro e1 w1 ⟨⟨z, rfl, hz⟩, hB1⟩
  obtain ⟨bx, hBL, hlw⟩ := one_q hB1
  have HX := hide bx
  have HB := hide hBL
  clear hB1 bx hBL hs
  by_cases h0 : z < 0
  · go_wp2
    go_ret
    exact ⟨rfl, HB.out⟩
  · have hq := hz (by omega)
    have hN : l.length + itX l ≤ 1048576 := hq.1
    have hsm : ∀ p ∈ l, p.Sm := hq.2
    have hND : (Pl.dropR r l).length + itX (Pl.dropR r l) ≤ 1048576 := by have h1 := Pl.dropR_few r l; have h2 := itX_drop r l; omega
    have hto := hide (fun W (hW : Below w.heap.size w W) => toCache_any l hN v W ((HR.out.later hW).up hW.size))
    have hsp := hide (fun v W (hr : IRow W.heap.size W l v) => specCacheDrop_any l r hN v W hr)
    have him := hide (fun v W (hr : IRow W.heap.size W l v) => implCacheDrop_any l r hN hsm v W hr)
    have heq := hide (fun W va vb ha hb => eqCache_any (Pl.dropR r l) hND va vb W ha hb)
    have heqx := hide (fun W va vb ha hb => eqCache_any l hN va vb W ha hb)
    have hmkx := hide (fun v lo hi W h hh => markCache_any l hN v lo hi W h hh)
    have hmkg := hide (fun v lo hi W h hh => markCache_any (Pl.dropR r l) hND v lo hi W h hh)
    have hhd := hide (fun v W h => heldCache_any (Pl.dropR r l) hND v W h)
    clear hz hq hN hsm hND HR
    have b0 := cell_of_block HX.out 0
    simp only [List.getElem?_toArray, List.getElem?_cons_zero] at b0
    go_wp2_with fail
    refine (hto.out _ HB.out).mono ?_
    rintro e2 w2 ⟨⟨a2, c2, rfl, hR2⟩, hB2⟩
    have HX2 := hide ((hB2.block _ hlw).trans HX.out)
    have HB2 := hide (HB.out.trans (hB2.mono HB.out.size))
    have hlw2 : w.heap.size < w2.heap.size := Nat.lt_of_lt_of_le hlw hB2.size
    have HR2 := hide hR2
    clear hB2 hR2 b0 HX HB
    go_wp2_with fail
    refine (hsp.out _ w2 HR2.out.row).mono ?_
    rintro e3 w3 ⟨⟨a3, c3, rfl, hR3⟩, hB3⟩
    have HX3 := hide ((hB3.block _ hlw2).trans HX2.out)
    have HB3 := hide (HB2.out.trans (hB3.mono HB2.out.size))
    have hlw3 : w.heap.size < w3.heap.size := Nat.lt_of_lt_of_le hlw2 hB3.size
    have HR3 := hide hR3
    clear hB3 hR3 HR2 HX2 HB2
    go_upto_region 6 with fail
    refine gen_code (fun X => Hid (X.heap[w.heap.size]? = some (.cells #[v] 29 (0, 0))) ∧ Hid (X.heap[w3.heap.size]? = some (.cells #[.slice a3 (Pl.dropR r l).length c3] 33 (0, 0))) ∧ Hid (IRow w3.heap.size X (Pl.dropR r l) (.slice a3 (Pl.dropR r l).length c3)) ∧ Hid (Below w.heap.size w X) ∧ Hid (X.heap.size = w3.heap.size + 1)) ⟨hide (by rw [heap_alloc_at, if_neg (by omega)]; exact HX3.out), hide (by rw [heap_alloc_at, if_pos rfl]), hide (HR3.out.later ((Below.refl _ _).alloc (Nat.le_refl _) _)), hide (HB3.out.alloc HB3.out.size _), hide (by simp)⟩ ?_
    rintro X4 ⟨HX4, HW4, HRW4, HB4, HS4⟩
    clear HX3 HB3 HR3
    have hl4 : w.heap.size < X4.heap.size := (Array.getElem?_eq_some_iff.1 HX4.out).1
    have x4 := cell_of_block HX4.out 0
    simp only [List.getElem?_toArray, List.getElem?_cons_zero] at x4
    go_wp2_with fail
    refine (hto.out X4 HB4.out).mono ?_
    rintro e5 w5 ⟨⟨a5, c5, rfl, hR5⟩, hB5⟩
    have h45 : w3.heap.size + 1 ≤ w5.heap.size := by have := hB5.size; have := HS4.out; omega
    have HX5 := hide ((hB5.block _ (Array.getElem?_eq_some_iff.1 HX4.out).1).trans HX4.out)
    have HW5 := hide ((hB5.block _ (Array.getElem?_eq_some_iff.1 HW4.out).1).trans HW4.out)
    have HRW5 := hide (HRW4.out.later (hB5.mono (by have := HS4.out; omega)))
    have HB5 := hide (HB4.out.trans (hB5.mono HB4.out.size))
    have HR5 := hide (hR5.up (lo' := w3.heap.size + 1) (by have := HS4.out; omega) (Nat.le_refl _))
    clear hB5 hR5 x4 HX4 HW4 HRW4 HB4
    go_upto_region 7 with fail
    refine gen_code (fun X => Hid (X.heap[w.heap.size]? = some (.cells #[v] 29 (0, 0))) ∧ Hid (X.heap[w3.heap.size]? = some (.cells #[.slice a3 (Pl.dropR r l).length c3] 33 (0, 0))) ∧ Hid (X.heap[w5.heap.size]? = some (.cells #[.slice a5 l.length c5] 33 (0, 0))) ∧ Hid (IRow w3.heap.size X (Pl.dropR r l) (.slice a3 (Pl.dropR r l).length c3)) ∧ Hid (IBlk (w3.heap.size + 1) w5.heap.size X l (.slice a5 l.length c5)) ∧ Hid (Below w.heap.size w X) ∧ Hid (X.heap.size = w5.heap.size + 1)) ⟨hide (by rw [heap_alloc_at, if_neg (by omega)]; exact HX5.out), hide (by rw [heap_alloc_at, if_neg (by omega)]; exact HW5.out), hide (by rw [heap_alloc_at, if_pos rfl]), hide (HRW5.out.later (((Below.refl _ _).alloc (Nat.le_refl _) _).mono (by omega))), hide (HR5.out.later ((Below.refl _ _).alloc (Nat.le_refl _) _)), hide (HB5.out.alloc HB5.out.size _), hide (by simp)⟩ ?_
    rintro X6 ⟨HX6, HW6, HY6, HRW6, HRX6, HB6, HS6⟩
    clear HX5 HW5 HRW5 HB5 HR5
    have hl6 : w5.heap.size < X6.heap.size := (Array.getElem?_eq_some_iff.1 HY6.out).1
    have x6 := cell_of_block HY6.out 0
    simp only [List.getElem?_toArray, List.getElem?_cons_zero] at x6
    go_wp2_with fail
    refine (him.out _ X6 (HRX6.out.row.up (by omega))).mono ?_
    rintro e7 w7 ⟨⟨a7, c7, rfl, hR7⟩, hB7⟩
    have h67 : w5.heap.size + 1 ≤ w7.heap.size := by have := hB7.size; have := HS6.out; omega
    have HX7 := hide ((hB7.block _ (Array.getElem?_eq_some_iff.1 HX6.out).1).trans HX6.out)
    have HW7 := hide ((hB7.block _ (Array.getElem?_eq_some_iff.1 HW6.out).1).trans HW6.out)
    have HY7 := hide ((hB7.block _ (Array.getElem?_eq_some_iff.1 HY6.out).1).trans HY6.out)
    have HRW7 := hide (HRW6.out.later (hB7.mono (by have := HS6.out; omega)))
    have HRX7 := hide (HRX6.out.later (hB7.mono (by have := HS6.out; omega)))
    have HB7 := hide (HB6.out.trans (hB7.mono HB6.out.size))
    have HR7 := hide (hR7.up (lo' := w5.heap.size + 1) (by have := HS6.out; omega) (Nat.le_refl _))
    clear hB7 hR7 x6 HX6 HW6 HY6 HRW6 HRX6 HB6
    go_upto_region 8 with fail
    refine gen_code (fun X => Hid (Four w.heap.size w3.heap.size w5.heap.size w7.heap.size (.cells #[v] 29 (0, 0)) (.cells #[.slice a3 (Pl.dropR r l).length c3] 33 (0, 0)) (.cells #[.slice a5 l.length c5] 33 (0, 0)) (.cells #[.slice a7 (Pl.dropR r l).length c7] 33 (0, 0)) X) ∧ Hid (IRow w3.heap.size X (Pl.dropR r l) (.slice a3 (Pl.dropR r l).length c3)) ∧ Hid (IBlk (w3.heap.size + 1) w5.heap.size X l (.slice a5 l.length c5)) ∧ Hid (IBlk (w5.heap.size + 1) w7.heap.size X (Pl.dropR r l) (.slice a7 (Pl.dropR r l).length c7)) ∧ Hid (Below w.heap.size w X) ∧ Hid (X.heap.size = w7.heap.size + 1)) ⟨hide ⟨by rw [heap_alloc_at, if_neg (by omega)]; exact HX7.out, by rw [heap_alloc_at, if_neg (by omega)]; exact HW7.out, by rw [heap_alloc_at, if_neg (by omega)]; exact HY7.out, by rw [heap_alloc_at, if_pos rfl]⟩, hide (HRW7.out.later (((Below.refl _ _).alloc (Nat.le_refl _) _).mono (by omega))), hide (HRX7.out.later (((Below.refl _ _).alloc (Nat.le_refl _) _).mono (by omega))), hide (HR7.out.later ((Below.refl _ _).alloc (Nat.le_refl _) _)), hide (HB7.out.alloc HB7.out.size _), hide (by simp)⟩ ?_
    rintro X8 ⟨HF8, HRW8, HRX8, HRG8, HB8, HS8⟩
    clear HX7 HW7 HY7 HRW7 HRX7 HB7 HR7
    have hsz8 : X8.heap.size = w7.heap.size + 1 := HS8.out
    have g8 := cell_of_block HF8.out.g 0
    have y8 := cell_of_block HF8.out.w 0
    simp only [List.getElem?_toArray, List.getElem?_cons_zero] at g8 y8
    clear hsz8
    go_wp2_with fail
    refine (heq.out X8 _ _ (HRG8.out.row.up (by have := HS8.out; omega)) (HRW8.out.up (by have := HS8.out; omega))).mono ?_
    rintro e9 w9 ⟨rfl, hB9⟩
    have hs9 : w7.heap.size + 1 ≤ w9.heap.size := by have := hB9.size; have := HS8.out; omega
    have HF9 := hide (HF8.out.later hB9)
    have HRW9 := hide (HRW8.out.later (hB9.mono (by have := HS8.out; omega)))
    have HRX9 := hide (HRX8.out.later (hB9.mono (by have := HS8.out; omega)))
    have HRG9 := hide (HRG8.out.later (hB9.mono (by have := HS8.out; omega)))
    have HB9 := hide (HB8.out.trans (hB9.mono HB8.out.size))
    have hly9 : w5.heap.size < w9.heap.size := by omega
    have hlx9 : w.heap.size < w9.heap.size := by omega
    clear hB9 g8 y8 HF8 HRW8 HRX8 HRG8 HB8
    go_upto_region 10 with fail
    refine wp_region_noPanic ?_
    refine wp_region_held_drew (S := fun W => Below w9.heap.size w9 W) (by kernel_rfl) (below_drew' (Below.refl _ _)) (fun hHeld => ?_)
    refine wpAnyH_take (i := 0) (oi := Oper.mk (some 31) _ _ _ _ _) (v := ?_) rfl (by kernel_rfl) (by kernel_rfl) (by kernel_rfl) (fun _ _ _ h => h) (Or.inl ⟨by rfl, ?_⟩) (by assumption) ?_
    rotate_left
    · intro w0 hSw
      have z0 : w0.cell? ⟨w5.heap.size, 0, none⟩ = some ((.slice a5 l.length c5 : Value)) := (Below.cell hSw (p := ⟨w5.heap.size, 0, none⟩) hly9).trans (cell_of_block HF9.out.y 0)
      clear hSw
      go_simp
      all_goals (with_reducible rfl)
    simp only [Act.put, List.setIfInBounds_toArray, List.set_cons_zero, List.set_cons_succ]
    refine wpAnyH_take (i := 1) (oi := Oper.mk (some 32) _ _ _ _ _) (v := ?_) rfl (by kernel_rfl) (by kernel_rfl) (by kernel_rfl) (fun _ _ _ h => h) (Or.inl ⟨by rfl, ?_⟩) (by assumption) ?_
    rotate_left
    · intro w0 hSw
      have z0 : w0.cell? ⟨w.heap.size, 0, none⟩ = some ((v : Value)) := (Below.cell hSw (p := ⟨w.heap.size, 0, none⟩) hlx9).trans (cell_of_block HF9.out.x 0)
      clear hSw
      go_simp
      all_goals (with_reducible rfl)
    simp only [Act.put, List.setIfInBounds_toArray, List.set_cons_zero, List.set_cons_succ]
    refine wpAnyH_ready (rs := [2]) (by kernel_rfl) (by simp) ?_
    refine AllReadyH.cons (o := Oper.mk (some 33) _ _ _ _ _) rfl (fun K hK => ?_) AllReadyH.nil
    go_simp
    go_at_call 11
    refine (hto.out _ (HB9.out.trans (hHeld.mono HB9.out.size))).mono ?_
    rintro x0 w0 ⟨⟨a10, c10, rfl, hT10⟩, hB0⟩
    have hHeld' := Below.trans hHeld (hB0.mono hHeld.size)
    have HT10 := hide (hT10.row.up (Nat.le_refl _))
    clear hT10
    clear hB0 hHeld
    go_wp2_with fail
    refine hK.out _ _ hHeld' (fun hHeld => ?_)
    clear hK K hHeld'
    (try simp only [Act.put, List.setIfInBounds_toArray, List.set_cons_zero, List.set_cons_succ])
    refine wpAnyH_ready (rs := [3]) (by kernel_rfl) (by simp) ?_
    refine AllReadyH.cons (o := Oper.mk (some 34) _ _ _ _ _) rfl (fun K hK => ?_) AllReadyH.nil
    go_simp
    go_at_call 13
    refine (heqx.out _ _ _ ((HRX9.out.later (hHeld.mono (by omega))).row.up (by have := hHeld.size; omega)) HT10.out).mono ?_
    rintro x0 w10 ⟨rfl, hB0⟩
    have hHeld' := Below.trans hHeld (hB0.mono hHeld.size)
    clear hB0 hHeld
    go_wp2_with fail
    refine hK.out _ _ hHeld' (fun hHeld => ?_)
    clear hK K hHeld'
    (try simp only [Act.put, List.setIfInBounds_toArray, List.set_cons_zero, List.set_cons_succ])
    refine wpAnyH_take (i := 4) (oi := Oper.mk (some 35) _ _ _ _ _) (v := ?_) rfl (by kernel_rfl) (by kernel_rfl) (by kernel_rfl) (fun _ _ _ h => h) (Or.inl ⟨by rfl, ?_⟩) (by assumption) ?_
    rotate_left
    · intro w0 hSw
      clear hSw
      go_simp
      all_goals (with_reducible rfl)
    simp only [Act.put, List.setIfInBounds_toArray, List.set_cons_zero, List.set_cons_succ]
    refine wpAnyH_done (by kernel_rfl) ?_ _
    refine NoPanic.normal ?_
    have hs10 : w7.heap.size + 1 ≤ w10.heap.size := Nat.le_trans hs9 hHeld.size
    have HF10 := hide (HF9.out.later hHeld)
    have HRW10 := hide (HRW9.out.later (hHeld.mono (by omega)))
    have HRX10 := hide (HRX9.out.later (hHeld.mono (by omega)))
    have HRG10 := hide (HRG9.out.later (hHeld.mono (by omega)))
    have HB10 := hide (HB9.out.trans (hHeld.mono HB9.out.size))
    clear hHeld HF9 HRW9 HRX9 HRG9 HB9 HT10 hly9 hlx9
    have y10 := cell_of_block HF10.out.y 0
    simp only [List.getElem?_toArray, List.getElem?_cons_zero] at y10
    go_wp2_with fail
    refine (hmkx.out _ _ _ _ HRX10.out (by omega)).mono ?_
    rintro e11 w11 ⟨⟨kz, rfl, hkz⟩, hM11, _⟩
    have hk0 : ¬ kz < 0 := by omega
    have hs11 : w7.heap.size + 1 ≤ w11.heap.size := Nat.le_trans hs10 hM11.size
    have HF11 := hide (HF10.out.mid hM11 (.inl (by omega)) (.inl (by omega)) (.inr (by omega)) (.inr (by omega)))
    have HRW11 := hide (HRW10.out.later ((hM11.below (by omega)).mono (by omega)))
    have HRG11 := hide (HRG10.out.mid hM11 (.inr (by omega)))
    have HB11 := hide (HB10.out.trans ((hM11.below (by omega)).mono (by omega)))
    clear hM11 y10 HF10 HRW10 HRX10 HRG10 HB10 hkz
    have g11 := cell_of_block HF11.out.g 0
    have y11 := cell_of_block HF11.out.w 0
    simp only [List.getElem?_toArray, List.getElem?_cons_zero] at g11 y11
    go_wp2_with fail
    refine (heq.out w11 _ _ (HRG11.out.row.up (by omega)) (HRW11.out.up (by omega))).mono ?_
    rintro e12 w12 ⟨rfl, hB12⟩
    have hs12 : w7.heap.size + 1 ≤ w12.heap.size := Nat.le_trans hs11 hB12.size
    have HF12 := hide (HF11.out.later hB12)
    have HRW12 := hide (HRW11.out.later (hB12.mono (by omega)))
    have HRG12 := hide (HRG11.out.later (hB12.mono (by omega)))
    have HB12 := hide (HB11.out.trans (hB12.mono HB11.out.size))
    clear hB12 g11 y11 HF11 HRW11 HRG11 HB11
    have g12 := cell_of_block HF12.out.g 0
    simp only [List.getElem?_toArray, List.getElem?_cons_zero] at g12
    go_wp2_with fail
    refine (hmkg.out _ _ _ _ HRG12.out (by omega)).mono ?_
    rintro e13 w13 ⟨⟨mz, rfl, hmz⟩, hM13, hRM⟩
    have hm0 : ¬ mz < 0 := by omega
    have hmm : (mz != mz) = false := by simp
    have HMZ := hide hmz
    have hs13 : w7.heap.size + 1 ≤ w13.heap.size := Nat.le_trans hs12 hM13.size
    have HF13 := hide (HF12.out.mid hM13 (.inl (by omega)) (.inl (by omega)) (.inl (by omega)) (.inr (by omega)))
    have HRW13 := hide (HRW12.out.later ((hM13.below (by omega)).mono (by omega)))
    have HRM13 := hide hRM
    have HB13 := hide (HB12.out.trans ((hM13.below (by omega)).mono (by omega)))
    clear hM13 hRM g12 HF12 HRW12 HRG12 HB12 hmz
    have g13 := cell_of_block HF13.out.g 0
    simp only [List.getElem?_toArray, List.getElem?_cons_zero] at g13
    go_wp2_with fail
    refine (hhd.out _ w13 HRM13.out).mono ?_
    rintro e14 w14 ⟨⟨qz, rfl, hqz⟩, hB14⟩
    obtain rfl : qz = mz := hqz.trans HMZ.out.symm
    have hs14 : w7.heap.size + 1 ≤ w14.heap.size := Nat.le_trans hs13 hB14.size
    have HF14 := hide (HF13.out.later hB14)
    have HRW14 := hide (HRW13.out.later (hB14.mono (by omega)))
    have HRM14 := hide (HRM13.out.later hB14)
    have HB14 := hide (HB13.out.trans (hB14.mono HB13.out.size))
    clear hB14 hqz g13 HF13 HRW13 HRM13 HB13
    have x14 := cell_of_block HF14.out.x 0
    simp only [List.getElem?_toArray, List.getElem?_cons_zero] at x14
    go_wp2_with fail
    refine (hto.out _ HB14.out).mono ?_
    rintro e15 w15 ⟨⟨a15, c15, rfl, hR15⟩, hB15⟩
    have hs15 : w7.heap.size + 1 ≤ w15.heap.size := Nat.le_trans hs14 hB15.size
    have HF15 := hide (HF14.out.later hB15)
    have HRW15 := hide (HRW14.out.later (hB15.mono (by omega)))
    have HRM15 := hide (HRM14.out.later hB15)
    have HB15 := hide (HB14.out.trans (hB15.mono HB14.out.size))
    have HR15 := hide hR15
    clear hB15 hR15 x14 HF14 HRW14 HRM14 HB14
    go_wp2_with fail
    refine (him.out _ w15 HR15.out.row).mono ?_
    rintro e16 w16 ⟨⟨a16, c16, rfl, hR16⟩, hB16⟩
    have hs16 : w7.heap.size + 1 ≤ w16.heap.size := Nat.le_trans hs15 hB16.size
    have HF16 := hide (HF15.out.later hB16)
    have HRW16 := hide (HRW15.out.later (hB16.mono (by omega)))
    have HRM16 := hide (HRM15.out.later hB16)
    have HB16 := hide (HB15.out.trans (hB16.mono HB15.out.size))
    have HR16 := hide hR16
    clear hB16 hR16 HF15 HRW15 HRM15 HB15 HR15
    go_upto_region 25 with fail
    refine gen_code (fun X => Hid (Four w.heap.size w3.heap.size w5.heap.size w7.heap.size (.cells #[v] 29 (0, 0)) (.cells #[.slice a3 (Pl.dropR r l).length c3] 33 (0, 0)) (.cells #[.slice a5 l.length c5] 33 (0, 0)) (.cells #[.slice a7 (Pl.dropR r l).length c7] 33 (0, 0)) X) ∧ Hid (X.heap[w16.heap.size]? = some (.cells #[.slice a16 (Pl.dropR r l).length c16] 33 (0, 0))) ∧ Hid (IRow w3.heap.size X (Pl.dropR r l) (.slice a3 (Pl.dropR r l).length c3)) ∧ Hid (IRow w16.heap.size X (Pl.dropR r l) (.slice a16 (Pl.dropR r l).length c16)) ∧ Hid (RMc X (Pl.dropR r l) (.slice a7 (Pl.dropR r l).length c7)) ∧ Hid (Below w.heap.size w X) ∧ Hid (X.heap.size = w16.heap.size + 1)) ⟨hide (HF16.out.later ((Below.refl _ _).alloc (Nat.le_refl _) _)), hide (by rw [heap_alloc_at, if_pos rfl]), hide (HRW16.out.later (((Below.refl _ _).alloc (Nat.le_refl _) _).mono (by omega))), hide (HR16.out.row.later ((Below.refl _ _).alloc (Nat.le_refl _) _)), hide (HRM16.out.later ((Below.refl _ _).alloc (Nat.le_refl _) _)), hide (HB16.out.alloc HB16.out.size _), hide (by simp)⟩ ?_
    rintro X17 ⟨HF17, HH17, HRW17, HRH17, HRM17, HB17, HS17⟩
    clear HF16 HRW16 HRM16 HB16 HR16
    have h17 := cell_of_block HH17.out 0
    have y17 := cell_of_block HF17.out.w 0
    simp only [List.getElem?_toArray, List.getElem?_cons_zero] at h17 y17
    go_wp2_with fail
    refine (heq.out X17 _ _ (HRH17.out.up (by have := HS17.out; omega)) (HRW17.out.up (by have := HS17.out; omega))).mono ?_
    rintro e18 w18 ⟨rfl, hB18⟩
    have HF18 := hide (HF17.out.later hB18)
    have HRM18 := hide (HRM17.out.later hB18)
    have HB18 := hide (HB17.out.trans (hB18.mono HB17.out.size))
    clear hB18 h17 y17 HF17 HRW17 HRM17 HB17 HH17 HRH17
    have g18 := cell_of_block HF18.out.g 0
    simp only [List.getElem?_toArray, List.getElem?_cons_zero] at g18
    go_wp2_with fail
    refine (hhd.out _ w18 HRM18.out).mono ?_
    rintro e19 w19 ⟨⟨rz, rfl, hrz⟩, hB19⟩
    obtain rfl : rz = qz := hrz.trans HMZ.out.symm
    have HB19 := hide (HB18.out.trans (hB19.mono HB18.out.size))
    clear hB19 hrz g18 HF18 HRM18 HB18
    go_wp2_with fail
    go_ret
    exact ⟨rfl, HB19.out⟩
end Go.Proofs.Ythkklmfjdjiafaa
