/- The law on ExprNames, walked. -/
import Derived.Test.YtckdpdlkjgjadaaNamX
import Derived.Test.YtckdpdlkjgjadaaTo
import Derived.Test.YtckdpdlkjgjadaaEqX
import Derived.Test.YtckdpdlkjgjadaaMarkX
import Derived.Test.YtckdpdlkjgjadaaListsT
namespace Go.Proofs.Ytckdpdlkjgjadaa
open Go.RowKit
set_option linter.unusedVariables false

set_option maxHeartbeats 800000 in
theorem markExpr_any (nd : Nd) (F : Fo) (lo hi : Nat) (v : Value) (w : World) (hs : SkRow lo hi w F v) (hlh : lo ≤ hi) (hhw : hi ≤ w.heap.size) (hb : F.nodes ≤ 1048576) :
    Calls Try.prog 15 #[ndV nd v, .int .i64 1] w fun e w' => e = .returned (.int .i64 ((1 + 5 * F.nodes : Nat) : Int)) ∧ Kept lo hi w w' := by
  have hA : Kept lo hi w (w.alloc (.cells #[.int .i64 nd.k, .int .i64 nd.vk, .int .i64 nd.vn, .string nd.vt, .string nd.nm, v] 32)) := kept_of_below ((Below.refl _ _).alloc (Nat.le_refl _) _) hhw hlh
  have hq := hide (markExprS_any F lo hi v _ 1 (hs.kept hA) hlh (by have := hA.1.size; omega) (by omega) (by omega))
  have HA := hide hA
  obtain ⟨ad, cap, rfl, _⟩ := hs
  clear hA
  generalize F.nodes = fn at *
  generalize F.len = fl at *
  go_enter Try.func15, Try.ntmps15
  go_wp2_with fail
  refine hq.out.mono ?_
  rintro e w1 ⟨rfl, hK⟩
  go_wp2
  go_ret
  exact ⟨rfl, HA.out.trans hK⟩

theorem Box6.low {b B : Nat} {nd : Nd} {v : Value} {W W1 : World} (h : Box6 b nd v W) (hB : Below B W W1) (hb : b < B) : Box6 b nd v W1 := by
  obtain ⟨hb0, h0, h1, h2, h3, h4, h5⟩ := h
  have C : ∀ o, W1.cell? ⟨b, o, none⟩ = W.cell? ⟨b, o, none⟩ := fun o => hB.cell (p := ⟨b, o, none⟩) hb
  exact ⟨by have := hB.size; omega, (C _).trans h0, (C _).trans h1, (C _).trans h2, (C _).trans h3, (C _).trans h4, (C _).trans h5⟩
theorem own_kept {lo hi base : Nat} {W W' : World} {e : TypeId} {v : Value} {n : Nat} {xs : List Value} (h : W.ownsRow base e 1 v n xs) (hK : Kept lo hi W W') (hb : hi ≤ base) : W'.ownsRow base e 1 v n xs := by
  refine ⟨h.1, ?_⟩
  rcases h.2 with hn | ⟨g, cap, cur, rfl, hg, hgg, rest⟩
  · exact .inl hn
  · have hlt : g < W.heap.size := (Array.getElem?_eq_some_iff.1 hgg).1
    exact .inr ⟨g, cap, cur, rfl, hg, (hK.2.1 g (by omega) hlt).trans hgg, rest⟩

set_option maxHeartbeats 3200000 in
theorem lawExprNames (nd : Nd) (k : Fo) (v : Value) (w : World) (ht : nd.vt.size ≤ maxLen) (hn : nd.nm.size ≤ maxLen) (hwf : k.Wf) (hr : RowAt 0 w k v) :
    Calls Try.prog 4 #[ndV nd v] w fun e w' => e = .returned (.bool true) ∧ Below w.heap.size w w' := by
  have hsz : Hid (∀ W, Below w.heap.size w W → Calls Try.prog 7 #[ndV nd v, .int .i64 1048576] W (SzPost k 1048576 W)) := fun W hW => szExpr_of nd k (szExprS_any k) ht hn hwf v W 1048576 (by omega) (by omega) (hr.later hW)
  have hto : Hid (k.len ≤ 1048576 → k.Sm → ∀ W, Below w.heap.size w W → Calls Try.prog 9 #[ndV nd v] W (NdPost nd k W)) := fun h1 h2 W hW => toExpr_of nd k (toExprS_any k) h1 h2 v W (hr.later hW)
  have hs1 : Hid (k.len ≤ 1048576 → k.Sm → ∀ W u, RowAt 0 W k u → Calls Try.prog 12 #[ndV nd u] W fun e w' => ∃ v', e = .returned v' ∧ TextsAt w' v' (Pl.exprNames nd k) ∧ Below W.heap.size W w') := fun h1 h2 W u hu => specExprNames_any nd k u W ht hn hwf h1 h2 hu
  have hs2 : Hid (k.len ≤ 1048576 → k.Sm → ∀ W u, RowAt 0 W k u → Calls Try.prog 13 #[ndV nd u] W fun e w' => ∃ v', e = .returned v' ∧ w'.ownsRow W.heap.size 9 1 v' (Pl.exprNames nd k).length ((Pl.exprNames nd k).map sv) ∧ Below W.heap.size W w') := fun h1 h2 W u hu => implExprNames_any nd k u W ht hn hwf h1 h2 hu
  have heq : Hid (k.len ≤ 1048576 → k.Sm → ∀ W u t, RowAt 0 W k u → RowAt 0 W k t → Calls Try.prog 11 #[ndV nd u, ndV nd t] W fun e w' => e = .returned (.bool true) ∧ Below W.heap.size W w') := fun h1 h2 W u t hu hv => eqExpr_of nd k (eqExprS_any k) h1 h2 u t W hu hv
  have hmk : Hid (k.nodes ≤ 1048576 → ∀ lo hi u W, SkRow lo hi W k u → lo ≤ hi → hi ≤ W.heap.size → Calls Try.prog 15 #[ndV nd u, .int .i64 1] W fun e w' => e = .returned (.int .i64 ((1 + 5 * k.nodes : Nat) : Int)) ∧ Kept lo hi W w') := fun h1 lo hi u W h2 h3 h4 => markExpr_any nd k lo hi u W h2 h3 h4 h1
  have hLl : (Pl.exprNames nd k).length ≤ 2097152 := by have := Pl.exprNames_len nd k; omega
  generalize Pl.exprNames nd k = L at hs1 hs2 hLl
  clear ht hn hwf hr
  go_enter Try.func4, Try.ntmps4
  go_wp2_with fail
  refine (hsz.out _ ((Below.refl _ _).alloc (Nat.le_refl _) _)).mono ?_
  rintro e w1 ⟨r, rfl, hr0, hr1, hr2, hB1⟩
  have HBox := hide ((Box6.mk (nd := nd) (v := v) (T := 26) w).later hB1)
  have HB1 : Hid (Below w.heap.size w w1) := ((Below.refl _ _).alloc (Nat.le_refl _) _).trans (hB1.mono (by simp))
  clear hB1 hsz
  by_cases hneg : r < 0
  · go_wp2
    go_ret
    exact ⟨rfl, HB1.out⟩
  · obtain ⟨hl, hsm, hnod⟩ := hr2 (by omega)
    have HTO := hide (hto.out hl hsm)
    have HS1 := hide (hs1.out hl hsm)
    have HS2 := hide (hs2.out hl hsm)
    have HEQ := hide (heq.out hl hsm)
    have HMK := hide (hmk.out (by omega))
    have hnod' : k.nodes ≤ 1048576 := by omega
    clear hto hs1 hs2 heq hmk hsm hl hr2 hnod
    obtain ⟨_, b0, b1, b2, b3, b4, b5⟩ := HBox.out
    go_wp2_with fail
    refine (HTO.out _ HB1.out).mono ?_
    rintro e w2 ⟨u1, rfl, hu1, _, hB2⟩
    have HU1 := hide (hu1.low (Nat.zero_le _))
    have HBox2 := hide (HBox.out.later hB2)
    have HB2 : Hid (Below w.heap.size w w2) := HB1.out.trans (hB2.mono HB1.out.size)
    clear hu1 hB2 b0 b1 b2 b3 b4 b5 HBox HB1
    go_wp2_with fail
    refine (HS1.out _ _ HU1.out).mono ?_
    rintro e w3 ⟨vw, rfl, hvw, hB3⟩
    have HVW := hide hvw
    have HBox3 := hide (HBox2.out.later hB3)
    have HB3 : Hid (Below w.heap.size w w3) := HB2.out.trans (hB3.mono HB2.out.size)
    have hw3 := hide HBox3.out.1
    have HBw3 : Hid (Below w.heap.size w w3) := HB3
    clear hB3 HBox2 HB2 HU1 HS1 hvw
    obtain ⟨aw, cw, rfl, _⟩ := HVW.out
    obtain ⟨_, b0, b1, b2, b3, b4, b5⟩ := HBox3.out
    go_wp2_with fail
    refine (HTO.out _ HB3.out).mono ?_
    rintro e w4 ⟨u2, rfl, hu2, hsk2, hB4⟩
    have HU2 := hide (hu2.low (Nat.zero_le _))
    have HSK := hide hsk2
    have H34 := hide hB4
    have HBox4 := hide (HBox3.out.later hB4)
    have HB4 : Hid (Below w.heap.size w w4) := HB3.out.trans (hB4.mono HB3.out.size)
    obtain ⟨ad2, cap2, rfl, _, _, _⟩ := hu2
    clear hB4 b0 b1 b2 b3 b4 b5 HBox3 HB3 hsk2
    generalize k.len = kl at *
    have HX := hide (Box6.mk (nd := nd) (v := .slice ad2 kl cap2) (T := 32) w4)
    have hA4 : Hid (Below w4.heap.size w4 (w4.alloc (.cells #[.int .i64 nd.k, .int .i64 nd.vk, .int .i64 nd.vn, .string nd.vt, .string nd.nm, .slice ad2 kl cap2] 32))) := (Below.refl _ _).alloc (Nat.le_refl _) _
    go_wp2_with fail
    refine (HS2.out _ _ (HU2.out.later hA4.out)).mono ?_
    rintro e w5 ⟨vg, rfl, hvg, hB5⟩
    have H45 : Hid (Below w4.heap.size w4 w5) := hA4.out.trans (hB5.mono (by simp))
    have HVG := hide (ownsRow_base hvg (base' := w4.heap.size) (by simp))
    have HX5 := hide (HX.out.later hB5)
    have HBox5 := hide (HBox4.out.later H45.out)
    have HU5 := hide (HU2.out.later H45.out)
    have HB5 : Hid (Below w.heap.size w w5) := HB4.out.trans (H45.out.mono HB4.out.size)
    clear hB5 HBox4 HX hA4 HU2 hvg
    obtain ⟨ag, cg, rfl⟩ := ownsRow_form HVG.out
    have HVW5 := hide ((HVW.out.later H34.out).later H45.out)
    go_wp2_with fail
    refine (eqStringS_texts L _ _ (by omega) _ (texts_of_row HVG.out) HVW5.out).mono ?_
    rintro e w6 ⟨rfl, hB6⟩
    have H46 : Hid (Below w4.heap.size w4 w6) := H45.out.trans (hB6.mono H45.out.size)
    have HVG6 := hide (ownsRow_later HVG.out hB6)
    have HX6 := hide (HX5.out.later hB6)
    have HBox6 := hide (HBox5.out.later hB6)
    have HU6 := hide (HU5.out.later hB6)
    have HB6 : Hid (Below w.heap.size w w6) := HB5.out.trans (hB6.mono HB5.out.size)
    clear hB6 HVG HX5 HBox5 HU5 HB5 HVW5 H45
    obtain ⟨_, b0, b1, b2, b3, b4, b5⟩ := HBox6.out
    obtain ⟨_, x0, x1, x2, x3, x4, x5⟩ := HX6.out
    go_wp2_with fail
    go_region_with (first | (go_at_call 9; refine (HTO.out _ HB6.out.drew).mono ?_; rintro e w7 ⟨u3, rfl, hu3, _, hB7⟩; have hB67 : Hid (Below w6.heap.size w6 w7) := (Below.refl _ _).drew.trans hB7; have HU3 := hide (hu3.low (Nat.zero_le _)); have HU7 := hide (HU6.out.later hB67.out); obtain ⟨_, y0, y1, y2, y3, y4, y5⟩ := HX6.out.later hB67.out; clear hu3 hB7) | (go_at_call 11; refine (HEQ.out _ _ _ HU7.out HU3.out).mono ?_; rintro e w8 ⟨rfl, hB8⟩))
    all_goals
      have H68 : Hid (Below w6.heap.size w6 w8) := hB67.out.trans (hB8.mono hB67.out.size)
      have H48 : Hid (Below w4.heap.size w4 w8) := H46.out.trans (H68.out.mono H46.out.size)
      have HVG8 := hide (ownsRow_later HVG6.out H68.out)
      have HX8 := hide (HX6.out.later H68.out)
      have HBox8 := hide (HBox6.out.later H68.out)
      have HB8 : Hid (Below w.heap.size w w8) := HB6.out.trans (H68.out.mono HB6.out.size)
      have HVW8 := hide ((HVW.out.later H34.out).later H48.out)
      have HSK8 := hide (HSK.out.later H48.out (Nat.le_refl _))
      have h38 : Hid (Below w3.heap.size w3 w8) := H34.out.trans (H48.out.mono H34.out.size)
      clear y0 y1 y2 y3 y4 y5 b0 b1 b2 b3 b4 b5 x0 x1 x2 x3 x4 x5 HU7 HU3 hB8 hB67 HU6 HX6 HBox6 HVG6 HB6 H68 H46 HEQ HSK
      obtain ⟨_, b0, b1, b2, b3, b4, b5⟩ := HBox8.out
      obtain ⟨_, x0, x1, x2, x3, x4, x5⟩ := HX8.out
      go_wp2_with fail
      refine (HMK.out _ _ _ _ HSK8.out H34.out.size H48.out.size).mono ?_
      rintro e w9 ⟨rfl, hK9⟩
      have H89 : Hid (Below w3.heap.size w8 w9) := hK9.1
      have HVG9 := hide (own_kept HVG8.out hK9 (Nat.le_refl _))
      have h39 : Hid (Below w3.heap.size w3 w9) := h38.out.trans hK9.1
      have HVW9 := hide (HVW.out.later h39.out)
      have HBox9 := hide (HBox8.out.low hK9.1 hw3.out)
      have hs9 : Hid (w4.heap.size ≤ w9.heap.size) := by
        show _ ≤ _
        have := H48.out.size; have := hK9.1.size; omega
      have h34 := hide H34.out.size
      clear hK9 HVG8 HVW8 HBox8 HX8 HSK8 HMK H48 h38 H34 x0 x1 x2 x3 x4 x5 b0 b1 b2 b3 b4 b5 H89
      have hkn : ((1 + 5 * k.nodes : Nat) : Int) < 0 ↔ False := by
        constructor
        · intro h; omega
        · intro h; exact h.elim
      go_wp2_with fail
      refine (eqStringS_texts L _ _ (by omega) _ (texts_of_row HVG9.out) HVW9.out).mono ?_
      rintro e w10 ⟨rfl, hB10⟩
      have HVG10 := hide (ownsRow_later HVG9.out hB10)
      have h310 : Hid (Below w3.heap.size w3 w10) := h39.out.trans (hB10.mono h39.out.size)
      have HBox10 := hide (HBox9.out.later hB10)
      have hs10 : Hid (w4.heap.size ≤ w10.heap.size) := by
        show _ ≤ _
        have := hs9.out; have := hB10.size; omega
      clear hB10 HVG9 HBox9 HVW9 h39 hs9 hkn
      go_wp2_with fail
      refine (markStringS_any w4.heap.size L.length _ _ hLl _ HVG10.out).mono ?_
      rintro e w11 ⟨rfl, r11, hB11⟩
      have HVG11 := hide r11
      have h311 : Hid (Below w3.heap.size w3 w11) := h310.out.trans (hB11.mono (by have := hs10.out; have := h34.out; omega))
      have HBox11 := hide (HBox10.out.low (hB11.mono (B' := w3.heap.size) (by have := hs10.out; have := h34.out; omega)) hw3.out)
      have HB11 : Hid (Below w.heap.size w w11) := HBw3.out.trans (h311.out.mono HBw3.out.size)
      clear r11 hB11 HVG10 HBox10 h310
      go_wp2_with fail
      refine (heldStringS_any w4.heap.size L.length _ hLl _ HVG11.out).mono ?_
      rintro e w12 ⟨rfl, hB12⟩
      have HVG12 := hide (ownsRow_later HVG11.out hB12)
      have h312 : Hid (Below w3.heap.size w3 w12) := h311.out.trans (hB12.mono h311.out.size)
      have HBox12 := hide (HBox11.out.later hB12)
      have HB12 : Hid (Below w.heap.size w w12) := HB11.out.trans (hB12.mono HB11.out.size)
      clear hB12 HVG11 HBox11 h311 HB11
      obtain ⟨_, b0, b1, b2, b3, b4, b5⟩ := HBox12.out
      go_wp2_with fail
      refine (HTO.out _ HB12.out).mono ?_
      rintro e w13 ⟨u13, rfl, hu13, _, hB13⟩
      have HU13 := hide (hu13.low (Nat.zero_le _))
      have HVG13 := hide (ownsRow_later HVG12.out hB13)
      have h313 : Hid (Below w3.heap.size w3 w13) := h312.out.trans (hB13.mono h312.out.size)
      have HB13 : Hid (Below w.heap.size w w13) := HB12.out.trans (hB13.mono HB12.out.size)
      clear hB13 HVG12 HBox12 h312 HB12 hu13 b0 b1 b2 b3 b4 b5
      go_wp2_with fail
      refine (HS2.out _ _ HU13.out).mono ?_
      rintro e w14 ⟨vh, rfl, hvh, hB14⟩
      have HVH := hide (texts_of_row hvh)
      obtain ⟨ah, ch, rfl⟩ := ownsRow_form hvh
      have HVG14 := hide (ownsRow_later HVG13.out hB14)
      have h314 : Hid (Below w3.heap.size w3 w14) := h313.out.trans (hB14.mono h313.out.size)
      have HB14 : Hid (Below w.heap.size w w14) := HB13.out.trans (hB14.mono HB13.out.size)
      have HVW14 := hide (HVW.out.later h314.out)
      clear hB14 HVG13 h313 HB13 hvh HU13
      go_wp2_with fail
      refine (eqStringS_texts L _ _ (by omega) _ HVH.out HVW14.out).mono ?_
      rintro e w15 ⟨rfl, hB15⟩
      have HVG15 := hide (ownsRow_later HVG14.out hB15)
      have HB15 : Hid (Below w.heap.size w w15) := HB14.out.trans (hB15.mono HB14.out.size)
      clear hB15 HVG14 HB14 HVW14 HVH h314
      go_wp2_with fail
      refine (heldStringS_any w4.heap.size L.length _ hLl _ HVG15.out).mono ?_
      rintro e w16 ⟨rfl, hB16⟩
      go_wp2
      go_ret
      exact ⟨rfl, HB15.out.trans (hB16.mono HB15.out.size)⟩
end Go.Proofs.Ytckdpdlkjgjadaa
