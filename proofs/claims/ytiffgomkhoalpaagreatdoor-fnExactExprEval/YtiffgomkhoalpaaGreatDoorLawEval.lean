/- The law on ExprEval, walked. -/
import Derived.Test.YtiffgomkhoalpaaGreatDoorEvX1
import Derived.Test.YtiffgomkhoalpaaGreatDoorEvS10
import Derived.Test.YtiffgomkhoalpaaGreatDoorSz
import Derived.Test.YtiffgomkhoalpaaGreatDoorEvL1
import Derived.Test.YtiffgomkhoalpaaGreatDoorEvL4
import Derived.Test.YtiffgomkhoalpaaGreatDoorEvL5
namespace Go.Proofs.YtiffgomkhoalpaaGreatDoor
open Go.RowKit
set_option linter.unusedVariables false
set_option linter.unusedSimpArgs false
/-- a value in a box -/
def V3 (b : Nat) (k n : Int) (t : ByteArray) (W : World) : Prop := W.heap[b]? = some (.cells #[.int .i64 k, .int .i64 n, .string t] 30 (0, 0))
theorem V3.later {b : Nat} {k n : Int} {t : ByteArray} {W W1 : World} (h : V3 b k n t W) (hB : Below W.heap.size W W1) : V3 b k n t W1 := (hB.block _ (Array.getElem?_eq_some_iff.1 h).1).trans h
theorem V3.start {W : World} {k n : Int} {t : ByteArray} : V3 W.heap.size k n t (W.alloc (.cells #[.int .i64 k, .int .i64 n, .string t] 30)) := by
  unfold V3
  rw [heap_alloc_at, if_pos rfl]
theorem V3.cells {b : Nat} {k n : Int} {t : ByteArray} {W : World} (h : V3 b k n t W) : b < W.heap.size ∧ W.cell? ⟨b, 0, none⟩ = some (.int .i64 k) ∧ W.cell? ⟨b, 1, none⟩ = some (.int .i64 n) ∧ W.cell? ⟨b, 2, none⟩ = some (.string t) :=
  ⟨(Array.getElem?_eq_some_iff.1 h).1, cell_of_block h 0, cell_of_block h 1, cell_of_block h 2⟩
theorem nxt {n : Nat} {w X X1 : World} (h : Below n w X) (hn : n ≤ X.heap.size) (hB : Below X.heap.size X X1) : Below n w X1 := h.trans (hB.mono hn)
theorem one_on {X : World} {o : Obj} : Below X.heap.size X (X.alloc o) := (Below.refl _ _).alloc (Nat.le_refl _) _
theorem evR_tuple (r : Option Va) : ∃ (z : Va) (b : Bool), evR r = .tuple #[vaV z, .bool b] := by
  cases r with
  | none => exact ⟨⟨0, 0, ⟨#[]⟩⟩, false, rfl⟩
  | some x => exact ⟨x, true, rfl⟩
set_option maxRecDepth 100000 in
set_option maxHeartbeats 6400000 in
theorem lawExprEval (nd : Nd) (k : Fo) (v : Value) (l : List Pl.Pr) (hpw : ∀ p ∈ l, PrWf p) (vl : Value) (w : World) (ht : nd.vt.size ≤ maxLen) (hn : nd.nm.size ≤ maxLen) (hwf : k.Wf) (hr : RowAt 0 w k v) (hrl : PrRow w l vl) (hE : ErrT w) :
    Calls Tryz.prog 3 #[ndV nd v, vl] w fun e w' => e = .returned (.bool true) ∧ Below w.heap.size w w' := by
  have hsz : Hid (∀ W, Below w.heap.size w W → Calls Tryz.prog 9 #[ndV nd v, .int .i64 1048576] W (SzPost k 1048576 W)) := fun W hW => szExpr_of nd k (szExprS_any k) ht hn hwf v W 1048576 (by omega) (by omega) (hr.later hW)
  have hsp : Hid (∀ (L : Int) W, 0 ≤ L → L ≤ 1048576 → Below w.heap.size w W → Calls Tryz.prog 10 #[vl, .int .i64 L] W fun x w' => (∃ r : Int, x = .returned (.int .i64 r) ∧ (0 ≤ r → l.length ≤ 1048576)) ∧ Below W.heap.size W w') := fun L W h0 h1 hW => szPairS_any l hpw vl W (hrl.later hW) L h0 h1
  have hto : Hid (k.len ≤ 1048576 → k.Sm → ∀ W, Below w.heap.size w W → Calls Tryz.prog 12 #[ndV nd v] W (NdPost nd k W)) := fun h1 h2 W hW => toExpr_of nd k (toExprS_any k) h1 h2 v W (hr.later hW)
  have htp : Hid (l.length ≤ 1048576 → ∀ W, Below w.heap.size w W → Calls Tryz.prog 13 #[vl] W fun x w' => ∃ u, x = .returned u ∧ PrRow w' l u ∧ Below W.heap.size W w') := fun h1 W hW => (toPairS_any l h1 vl W (hrl.later hW)).mono fun x w' ⟨hx, hq⟩ => ⟨_, hx, hq.done h1, hq.2.2⟩
  obtain ⟨z, b, hz⟩ := evR_tuple (Pl.evalO l nd k)
  obtain ⟨zk, zn, zt⟩ := z
  have hs1 : Hid (k.len ≤ 1048576 → k.Sm → ∀ W u lu, RowAt 0 W k u → PrRow W l lu → Calls Tryz.prog 11 #[ndV nd u, lu] W fun e w' => e = .returned (.tuple #[.agg #[.int .i64 zk, .int .i64 zn, .string zt], .bool b]) ∧ Below W.heap.size W w') := fun h1 h2 W u lu hu hl => (specExprEval_any nd k u l hpw lu W ht hn hwf h1 h2 hu hl).mono fun e w' ⟨he, hb⟩ => ⟨by rw [he, hz], hb⟩
  have hs2 : Hid (k.len ≤ 1048576 → k.Sm → ∀ W u lu, RowAt 0 W k u → PrRow W l lu → ErrT W → Calls Tryz.prog 14 #[ndV nd u, lu] W fun e w' => e = .returned (.tuple #[.agg #[.int .i64 zk, .int .i64 zn, .string zt], .bool b]) ∧ Below W.heap.size W w') := fun h1 h2 W u lu hu hl he => (implExprEval_any nd k u l hpw lu W ht hn hwf h1 h2 hu hl he).mono fun e w' ⟨he, hb⟩ => ⟨by rw [he, hz], hb⟩
  have heq : Hid (k.len ≤ 1048576 → k.Sm → ∀ W u t, RowAt 0 W k u → RowAt 0 W k t → Calls Tryz.prog 16 #[ndV nd u, ndV nd t] W fun e w' => e = .returned (.bool true) ∧ Below W.heap.size W w') := fun h1 h2 W u t hu hv => eqExpr_of nd k (eqExprS_any k) h1 h2 u t W hu hv
  have hqp : Hid (l.length ≤ 1048576 → ∀ W u t, PrRow W l u → PrRow W l t → Calls Tryz.prog 17 #[u, t] W fun e w' => e = .returned (.bool true) ∧ Below W.heap.size W w') := fun h1 W u t hu hv => eqPairS_any l h1 u t W hu hv
  have heqv := hide (eqValue_any zk zn zt)
  have HE := hide hE
  obtain ⟨a2, c2, rfl, _⟩ := hrl
  clear ht hn hwf hr hpw hE hz
  go_enter Tryz.func3, Tryz.ntmps3
  go_wp2_with fail
  refine (hsz.out _ ((Below.refl _ _).alloc (Nat.le_refl _) _)).mono ?_
  rintro e w1 ⟨r, rfl, hr0, hr1, hr2, hB1⟩
  have HBox := hide ((Box6.mk (nd := nd) (v := v) (T := 26) w).later hB1)
  have HB1 : Hid (Below w.heap.size w w1) := ((Below.refl _ _).alloc (Nat.le_refl _) _).trans (hB1.mono (by simp))
  clear hB1 hsz
  by_cases hneg : r < 0
  · go_wp2
    go_ret
    exact ⟨rfl, HB1.out⟩
  · obtain ⟨hl, hsm, _⟩ := hr2 (by omega)
    have HTO := hide (hto.out hl hsm)
    have HS1 := hide (hs1.out hl hsm)
    have HS2 := hide (hs2.out hl hsm)
    have HEQ := hide (heq.out hl hsm)
    have HSP := hide (hsp.out r w1 (by omega) (by omega) HB1.out)
    clear hto hs1 hs2 heq hsm hl hr2 hsp
    go_wp2_with fail
    refine HSP.out.mono ?_
    rintro e w2 ⟨⟨r2, rfl, hq⟩, hB2⟩
    have HBox2 := hide (HBox.out.later hB2)
    have HB2 := hide (nxt HB1.out HB1.out.size hB2)
    clear hB2 HSP HBox HB1
    by_cases hneg2 : r2 < 0
    · go_wp2
      go_ret
      exact ⟨rfl, HB2.out⟩
    · have hN := hq (by omega)
      have HTP := hide (htp.out hN)
      have HQP := hide (hqp.out hN)
      clear htp hqp hq
      obtain ⟨_, b0, b1, b2, b3, b4, b5⟩ := HBox2.out
      go_wp2_with fail
      refine (HTO.out _ HB2.out).mono ?_
      rintro e w3 ⟨u1, rfl, hu1, _, hB3⟩
      have HU3 := hide (hu1.low (Nat.zero_le _))
      have HBox3 := hide (HBox2.out.later hB3)
      have HB3 := hide (nxt HB2.out HB2.out.size hB3)
      clear hu1 hB3 b0 b1 b2 b3 b4 b5 HBox2 HB2
      go_wp2_with fail
      refine (HTP.out _ HB3.out).mono ?_
      rintro e w4 ⟨lu1, rfl, hl4, hB4⟩
      have HU4 := hide (HU3.out.later hB4)
      have HL4 := hide hl4
      have HBox4 := hide (HBox3.out.later hB4)
      have HB4 := hide (nxt HB3.out HB3.out.size hB4)
      clear hl4 hB4 HU3 HBox3 HB3
      go_wp2_with fail
      refine (HS1.out _ _ _ HU4.out HL4.out).mono ?_
      rintro e w5 ⟨rfl, hB5⟩
      have HBox5 := hide (HBox4.out.later hB5)
      have HB5 := hide (nxt HB4.out HB4.out.size hB5)
      clear hB5 HU4 HL4 HBox4 HB4 HS1
      have HV5 := hide (V3.start (W := w5) (k := zk) (n := zn) (t := zt))
      have HBox5a := hide (HBox5.out.later (one_on (o := .cells #[.int .i64 zk, .int .i64 zn, .string zt] 30)))
      have HB5a := hide (nxt HB5.out HB5.out.size (one_on (o := .cells #[.int .i64 zk, .int .i64 zn, .string zt] 30)))
      obtain ⟨_, b0, b1, b2, b3, b4, b5⟩ := HBox5.out
      go_wp2_with fail
      refine (HTO.out _ HB5a.out).mono ?_
      rintro e w6 ⟨u2, rfl, hu2, _, hB6⟩
      have HU6 := hide (hu2.low (Nat.zero_le _))
      have HBox6 := hide (HBox5a.out.later hB6)
      have HV6 := hide (HV5.out.later hB6)
      have HB6 := hide (nxt HB5a.out HB5a.out.size hB6)
      obtain ⟨ad2, cap2, rfl, _, _, _⟩ := hu2
      clear hB6 b0 b1 b2 b3 b4 b5 HBox5 HB5 HBox5a HB5a HV5
      generalize k.len = kl at *
      have HX := hide (Box6.mk (nd := nd) (v := .slice ad2 kl cap2) (T := 35) w6)
      have HA6 : Hid (Below w6.heap.size w6 (w6.alloc (.cells #[.int .i64 nd.k, .int .i64 nd.vk, .int .i64 nd.vn, .string nd.vt, .string nd.nm, .slice ad2 kl cap2] 35))) := one_on
      have HB6a := hide (nxt HB6.out HB6.out.size HA6.out)
      go_wp2_with fail
      refine (HTP.out _ HB6a.out).mono ?_
      rintro e w7 ⟨lu2, rfl, hl7, hB7⟩
      have HL7 := hide hl7
      have HX7 := hide (HX.out.later hB7)
      have HU7 := hide ((HU6.out.later HA6.out).later hB7)
      have HBox7 := hide ((HBox6.out.later HA6.out).later hB7)
      have HV7 := hide ((HV6.out.later HA6.out).later hB7)
      have HB7 := hide (nxt HB6a.out HB6a.out.size hB7)
      have HE7 := hide (HE.out.later HB7.out)
      clear hl7 hB7 HX HU6 HBox6 HV6 HB6 HA6 HB6a HE
      obtain ⟨_, x0, x1, x2, x3, x4, x5⟩ := HX7.out
      go_wp2_with fail
      refine (HS2.out _ _ _ HU7.out HL7.out HE7.out).mono ?_
      rintro e w8 ⟨rfl, hB8⟩
      have HX8 := hide (HX7.out.later hB8)
      have HU8 := hide (HU7.out.later hB8)
      have HL8 := hide (HL7.out.later hB8)
      have HBox8 := hide (HBox7.out.later hB8)
      have HV8 := hide (HV7.out.later hB8)
      have HB8 := hide (nxt HB7.out HB7.out.size hB8)
      clear hB8 x0 x1 x2 x3 x4 x5 HX7 HU7 HL7 HBox7 HV7 HB7 HE7 HS2
      obtain ⟨vb, v0, v1, v2⟩ := HV8.out.cells
      have HA8 : Hid (Below w8.heap.size w8 (w8.alloc (.cells #[.int .i64 zk, .int .i64 zn, .string zt] 30))) := one_on
      go_wp2_with fail
      refine (heqv.out _).mono ?_
      rintro e w9 ⟨rfl, hB9⟩
      have HX9 := hide ((HX8.out.later HA8.out).later hB9)
      have HU9 := hide ((HU8.out.later HA8.out).later hB9)
      have HL9 := hide ((HL8.out.later HA8.out).later hB9)
      have HBox9 := hide ((HBox8.out.later HA8.out).later hB9)
      have HB9 := hide (nxt (nxt HB8.out HB8.out.size HA8.out) (HB8.out.trans (HA8.out.mono HB8.out.size)).size hB9)
      clear hB9 vb v0 v1 v2 HX8 HU8 HL8 HBox8 HV8 HB8 HA8 heqv
      have hne : (b != b) = false := by cases b <;> rfl
      obtain ⟨_, b0, b1, b2, b3, b4, b5⟩ := HBox9.out
      obtain ⟨_, x0, x1, x2, x3, x4, x5⟩ := HX9.out
      go_wp2_with fail
      go_region_with (first | (go_at_call 12; refine (HTO.out _ HB9.out.drew).mono ?_; rintro e w10 ⟨u3, rfl, hu3, _, hB10⟩; have hB910 : Hid (Below w9.heap.size w9 w10) := (Below.refl _ _).drew.trans hB10; have HU10 := hide (hu3.low (Nat.zero_le _)); have HU10b := hide (HU9.out.later hB910.out); obtain ⟨_, y0, y1, y2, y3, y4, y5⟩ := HX9.out.later hB910.out; clear hu3 hB10) | (go_at_call 16; refine (HEQ.out _ _ _ HU10b.out HU10.out).mono ?_; rintro e w11 ⟨rfl, hB11⟩))
      all_goals
        have HB10 := hide (nxt HB9.out HB9.out.size hB910.out)
        have HB11 := hide (nxt HB10.out HB10.out.size hB11)
        have HL11 := hide ((HL9.out.later hB910.out).later hB11)
        clear b0 b1 b2 b3 b4 b5 x0 x1 x2 x3 x4 x5 y0 y1 y2 y3 y4 y5 hB11 hB910 HX9 HU9 HL9 HBox9 HB9 HU10 HU10b HB10
        go_wp2_with fail
        refine (HTP.out _ HB11.out).mono ?_
        rintro e w12 ⟨lu3, rfl, hl12, hB12⟩
        have HL12 := hide (HL11.out.later hB12)
        have HLN := hide hl12
        have HB12 := hide (nxt HB11.out HB11.out.size hB12)
        clear hl12 hB12 HL11 HB11
        go_wp2_with fail
        refine (HQP.out _ _ _ HL12.out HLN.out).mono ?_
        rintro e w13 ⟨rfl, hB13⟩
        have HB13 := hide (nxt HB12.out HB12.out.size hB13)
        clear hB13 HL12 HLN HB12
        go_wp2
        go_ret
        exact ⟨rfl, HB13.out⟩
end Go.Proofs.YtiffgomkhoalpaaGreatDoor
