/- The law on ExprOk, walked. -/
import Derived.Test.YtckdpdlkjgjadaaOk1f
import Derived.Test.YtckdpdlkjgjadaaOk2f
import Derived.Test.YtckdpdlkjgjadaaTo
import Derived.Test.YtckdpdlkjgjadaaEqX
namespace Go.Proofs.Ytckdpdlkjgjadaa
open Go.RowKit
set_option linter.unusedVariables false

set_option maxHeartbeats 1600000 in
theorem lawExprOk (nd : Nd) (k : Fo) (v : Value) (w : World) (ht : nd.vt.size ≤ maxLen) (hn : nd.nm.size ≤ maxLen) (hwf : k.Wf) (hr : RowAt 0 w k v) :
    Calls Try.prog 3 #[ndV nd v] w fun e w' => e = .returned (.bool true) ∧ Below w.heap.size w w' := by
  have hsz : Hid (∀ W, Below w.heap.size w W → Calls Try.prog 7 #[ndV nd v, .int .i64 1048576] W (SzPost k 1048576 W)) := fun W hW => szExpr_of nd k (szExprS_any k) ht hn hwf v W 1048576 (by omega) (by omega) (hr.later hW)
  have hto : Hid (k.len ≤ 1048576 → k.Sm → ∀ W, Below w.heap.size w W → Calls Try.prog 9 #[ndV nd v] W (NdPost nd k W)) := fun h1 h2 W hW => toExpr_of nd k (toExprS_any k) h1 h2 v W (hr.later hW)
  have hs1 : Hid (k.len ≤ 1048576 → k.Sm → ∀ W u, RowAt 0 W k u → Calls Try.prog 8 #[ndV nd u] W fun e w' => e = .returned (.bool (Pl.okN nd k 5)) ∧ Below W.heap.size W w') := fun h1 h2 W u hu => specExprOk_any nd k u W ht hn hwf h1 h2 hu
  have hs2 : Hid (k.len ≤ 1048576 → k.Sm → ∀ W u, RowAt 0 W k u → Calls Try.prog 10 #[ndV nd u] W fun e w' => e = .returned (.bool (Pl.okN nd k 5)) ∧ Below W.heap.size W w') := fun h1 h2 W u hu => implExprOk_any nd k u W ht hn hwf h1 h2 hu
  have heq : Hid (k.len ≤ 1048576 → k.Sm → ∀ W u t, RowAt 0 W k u → RowAt 0 W k t → Calls Try.prog 11 #[ndV nd u, ndV nd t] W fun e w' => e = .returned (.bool true) ∧ Below W.heap.size W w') := fun h1 h2 W u t hu hv => eqExpr_of nd k (eqExprS_any k) h1 h2 u t W hu hv
  generalize Pl.okN nd k 5 = ok at hs1 hs2
  clear ht hn hwf hr
  go_enter Try.func3, Try.ntmps3
  go_wp2_with fail
  refine (hsz.out _ ((Below.refl _ _).alloc (Nat.le_refl _) _)).mono ?_
  rintro e w1 ⟨r, rfl, hr0, hr1, hr2, hB1⟩
  have HBox := hide ((Box6.mk (nd := nd) (v := v) (T := 26) w).later hB1)
  have HB1 : Hid (Below w.heap.size w w1) := ((Below.refl _ _).alloc (Nat.le_refl _) _).trans (hB1.mono (by simp))
  clear hB1 hsz
  by_cases hneg : r < 0
  · go_wp2
    go_ret
    exact ⟨rfl, HB1.out⟩
  · obtain ⟨hl, hsm, _⟩ := hr2 (by omega)
    have HTO := hide (hto.out hl hsm)
    have HS1 := hide (hs1.out hl hsm)
    have HS2 := hide (hs2.out hl hsm)
    have HEQ := hide (heq.out hl hsm)
    clear hto hs1 hs2 heq hsm hl hr2
    obtain ⟨_, b0, b1, b2, b3, b4, b5⟩ := HBox.out
    go_wp2_with fail
    refine (HTO.out _ HB1.out).mono ?_
    rintro e w2 ⟨u1, rfl, hu1, _, hB2⟩
    have HU1 := hide (hu1.low (Nat.zero_le _))
    have HBox2 := hide (HBox.out.later hB2)
    have HB2 : Hid (Below w.heap.size w w2) := HB1.out.trans (hB2.mono HB1.out.size)
    clear hu1 hB2 b0 b1 b2 b3 b4 b5 HBox HB1
    go_wp2_with fail
    refine (HS1.out _ _ HU1.out).mono ?_
    rintro e w3 ⟨rfl, hB3⟩
    have HBox3 := hide (HBox2.out.later hB3)
    have HB3 : Hid (Below w.heap.size w w3) := HB2.out.trans (hB3.mono HB2.out.size)
    clear hB3 HBox2 HB2 HU1 HS1
    obtain ⟨_, b0, b1, b2, b3, b4, b5⟩ := HBox3.out
    go_wp2_with fail
    refine (HTO.out _ HB3.out).mono ?_
    rintro e w4 ⟨u2, rfl, hu2, _, hB4⟩
    have HU2 := hide (hu2.low (Nat.zero_le _))
    have HBox4 := hide (HBox3.out.later hB4)
    have HB4 : Hid (Below w.heap.size w w4) := HB3.out.trans (hB4.mono HB3.out.size)
    obtain ⟨ad2, cap2, rfl, _, _, _⟩ := hu2
    clear hB4 b0 b1 b2 b3 b4 b5 HBox3 HB3
    generalize k.len = kl at *
    have HX := hide (Box6.mk (nd := nd) (v := .slice ad2 kl cap2) (T := 32) w4)
    have hA4 : Hid (Below w4.heap.size w4 (w4.alloc (.cells #[.int .i64 nd.k, .int .i64 nd.vk, .int .i64 nd.vn, .string nd.vt, .string nd.nm, .slice ad2 kl cap2] 32))) := (Below.refl _ _).alloc (Nat.le_refl _) _
    go_wp2_with fail
    refine (HS2.out _ _ (HU2.out.later hA4.out)).mono ?_
    rintro e w5 ⟨rfl, hB5⟩
    have HX5 := hide (HX.out.later hB5)
    have HBox5 := hide ((HBox4.out.later hA4.out).later hB5)
    have HU5 := hide ((HU2.out.later hA4.out).later hB5)
    have HB5 : Hid (Below w.heap.size w w5) := (HB4.out.trans (hA4.out.mono HB4.out.size)).trans (hB5.mono (by have := HB4.out.size; have := hA4.out.size; omega))
    clear hB5 HBox4 HB4 HX hA4 HU2 HS2
    obtain ⟨_, b0, b1, b2, b3, b4, b5⟩ := HBox5.out
    obtain ⟨_, x0, x1, x2, x3, x4, x5⟩ := HX5.out
    have hne : (ok != ok) = false := by cases ok <;> rfl
    go_wp2_with fail
    go_region_with (first | (go_at_call 9; refine (HTO.out _ HB5.out.drew).mono ?_; rintro e w6 ⟨u3, rfl, hu3, _, hB6⟩; have hB56 : Hid (Below w5.heap.size w5 w6) := (Below.refl _ _).drew.trans hB6; have HU3 := hide (hu3.low (Nat.zero_le _)); have HU6 := hide (HU5.out.later hB56.out); obtain ⟨_, y0, y1, y2, y3, y4, y5⟩ := HX5.out.later hB56.out; clear hu3 hB6) | (go_at_call 11; refine (HEQ.out _ _ _ HU6.out HU3.out).mono ?_; rintro e w7 ⟨rfl, hB7⟩))
    all_goals
      go_wp2
      go_ret
      exact ⟨rfl, (HB5.out.trans (hB56.out.mono HB5.out.size)).trans (hB7.mono (by have := HB5.out.size; have := hB56.out.size; omega))⟩
end Go.Proofs.Ytckdpdlkjgjadaa
