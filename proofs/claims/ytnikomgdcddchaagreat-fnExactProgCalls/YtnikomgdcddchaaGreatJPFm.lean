/- Joined: PFm2 PFm3 PFm4. -/
import Derived.Test.YtnikomgdcddchaaGreatPFmD
import Derived.Test.YtnikomgdcddchaaGreatPFm1
/- Whether steps have their form, as the specification has it: an expression that is ok. -/
namespace Go.Proofs.YtnikomgdcddchaaGreat
open Go.RowKit
set_option linter.unusedVariables false

theorem okN_kind {xk xvk xvn : Int} {xvt xnm : ByteArray} {ek : Fo} (h : Pl.okN ⟨xk, xvk, xvn, xvt, xnm⟩ ek 5 = true) : (xk == 0) = false := by
  apply beq_eq_false_iff_ne.2
  intro h0
  subst h0
  simp only [Pl.okN, Bool.and_eq_true, decide_eq_true_eq, beq_iff_eq] at h
  have := h.1.2.1
  simp [Pl.arity] at this
set_option maxHeartbeats 6400000 in
set_option maxRecDepth 100000 in
theorem l3Form_ok (k : Int) (nm wh : ByteArray) (xk xvk xvn : Int) (xvt xnm : ByteArray) (ek : Fo) (b l : Ps) (d : Nat) (hd : 1 ≤ d) (hd4 : d ≤ 4) (he1 : ek.len ≤ 1048576) (he2 : ek.Sm) (hb1 : b.len ≤ 1048576) (hb2 : b.Sm) (hl1 : l.len ≤ 1048576) (hl2 : l.Sm)
    (hw1 : nm.size ≤ maxLen) (hw2 : wh.size ≤ maxLen) (hw3 : xvt.size ≤ maxLen) (hw4 : xnm.size ≤ maxLen) (hw5 : ek.Wf) (hwb : b.Wf) (hwl : l.Wf) (ve vb vl : Value) (w : World) (hre : RowAt 0 w ek ve) (hrb : PRow 0 w b vb) (hrl : PRow 0 w l vl) (hok : Pl.okN ⟨xk, xvk, xvn, xvt, xnm⟩ ek 5 = true) (k3 : k ≠ 3) (k4 : k ≠ 4) :
    Calls Tryz.prog 58 #[.agg #[.int .i64 k, .string nm, .string wh, .int .i64 xk, .int .i64 xvk, .int .i64 xvn, .string xvt, .string xnm, ve, vb, vl], .int .i64 d] w fun e w' => e = .returned (.bool (Pl.formBy ⟨k, nm, wh, ⟨xk, xvk, xvn, xvt, xnm⟩, ek⟩ b.len l.len (Pl.bodyB b (d - 1)) (Pl.bodyB l (d - 1)))) ∧ Below w.heap.size w w' := by
  have hq1 := hide (fun W => l1Name_any nm hw1 W)
  have hq2 := hide (fun W => l1Name_any wh hw2 W)
  have hqe : Hid (∀ W, Below w.heap.size w W → Calls Tryz.prog 81 #[ndV ⟨xk, xvk, xvn, xvt, xnm⟩ ve] W fun e w' => e = .returned (.bool true) ∧ Below W.heap.size W w') := by
    refine hide fun W hW => ?_
    have := specExprOk_any ⟨xk, xvk, xvn, xvt, xnm⟩ ek ve W hw3 hw4 hw5 he1 he2 (hre.later hW)
    rwa [hok] at this
  have kk3 : (k == 3) = false := beq_eq_false_iff_ne.2 k3
  have kk4 : (k == 4) = false := beq_eq_false_iff_ne.2 k4
  have HOK := hide hok
  have HNO : Hid (Pl.noneB ⟨xk, xvk, xvn, xvt, xnm⟩ ek = false) := by
    show _ = _
    simp only [Pl.noneB, okN_kind hok, Bool.false_and]
  have hx0 : (xk == 0) = false := okN_kind hok
  clear he2 hb2 hl2 hwb hwl hw5 hw1 hw2 hw3 hw4 hok k3 k4
  generalize Pl.bodyB b (d - 1) = fb
  generalize Pl.bodyB l (d - 1) = fe
  obtain ⟨ade, cape, rfl, _, _, _⟩ := hre
  obtain ⟨adb, capb, rfl, _, _, _⟩ := hrb
  obtain ⟨adl, capl, rfl, _, _, _⟩ := hrl
  have HX := hide (Box11.mk (sn := ⟨k, nm, wh, ⟨xk, xvk, xvn, xvt, xnm⟩, ek⟩) (ve := .slice ade ek.len cape) (vb := .slice adb b.len capb) (vl := .slice adl l.len capl) (T := 47) w)
  have HA : Hid (Below w.heap.size w (w.alloc (.cells #[.int .i64 k, .string nm, .string wh, .int .i64 xk, .int .i64 xvk, .int .i64 xvn, .string xvt, .string xnm, .slice ade ek.len cape, .slice adb b.len capb, .slice adl l.len capl] 47))) := (Below.refl _ _).alloc (Nat.le_refl _) _
  go_enter Tryz.func58, Tryz.ntmps58
  go_wp2_with fail
  refine (hq1.out _).mono ?_
  rintro e w1 ⟨rfl, hB1⟩
  have HX1 := hide (HX.out.later hB1)
  have HB1 : Hid (Below w.heap.size w w1) := HA.out.trans (hB1.mono (by simp))
  clear HX hB1 HA hq1
  obtain ⟨_, ⟨x0, x1, x2, x3, x4, x5, x6, x7⟩, x8, x9, x10⟩ := HX1.out
  go_wp2_with fail
  refine (hq2.out _).mono ?_
  rintro e w2 ⟨rfl, hB2⟩
  have HX2 := hide (HX1.out.later hB2)
  have HB2 : Hid (Below w.heap.size w w2) := HB1.out.trans (hB2.mono HB1.out.size)
  clear x0 x1 x2 x3 x4 x5 x6 x7 x8 x9 x10 HX1 hB2 HB1 hq2
  obtain ⟨_, ⟨x0, x1, x2, x3, x4, x5, x6, x7⟩, x8, x9, x10⟩ := HX2.out
  go_wp2_with fail
  refine (hqe.out _ HB2.out).mono ?_
  rintro e w3 ⟨rfl, hB3⟩
  have HB3 : Hid (Below w.heap.size w w3) := HB2.out.trans (hB3.mono HB2.out.size)
  have HX3 := hide (HX2.out.later hB3)
  clear x0 x1 x2 x3 x4 x5 x6 x7 x8 x9 x10
  obtain ⟨_, ⟨x0, x1, x2, x3, x4, x5, x6, x7⟩, x8, x9, x10⟩ := HX3.out
  clear hB3 HX2 HB2 hqe
  go_wp2
  all_goals
    go_ret
    refine ⟨?_, HB3.out⟩
    clear x0 x1 x2 x3 x4 x5 x6 x7 x8 x9 x10 HX3 HB3 hx0
    simp_all [Pl.formBy, HOK.out, HNO.out]
set_option maxHeartbeats 6400000 in
set_option maxRecDepth 100000 in
theorem l3Form_ok3 (nm wh : ByteArray) (xk xvk xvn : Int) (xvt xnm : ByteArray) (ek : Fo) (b l : Ps) (d : Nat) (hd : 1 ≤ d) (hd4 : d ≤ 4) (hkb : FmP 35 b (d - 1)) (hkl : FmP 35 l (d - 1)) (he1 : ek.len ≤ 1048576) (he2 : ek.Sm) (hb1 : b.len ≤ 1048576) (hb2 : b.Sm) (hl1 : l.len ≤ 1048576) (hl2 : l.Sm)
    (hw1 : nm.size ≤ maxLen) (hw2 : wh.size ≤ maxLen) (hw3 : xvt.size ≤ maxLen) (hw4 : xnm.size ≤ maxLen) (hw5 : ek.Wf) (hwb : b.Wf) (hwl : l.Wf) (ve vb vl : Value) (w : World) (hre : RowAt 0 w ek ve) (hrb : PRow 0 w b vb) (hrl : PRow 0 w l vl) (hok : Pl.okN ⟨xk, xvk, xvn, xvt, xnm⟩ ek 5 = true) :
    Calls Tryz.prog 58 #[.agg #[.int .i64 3, .string nm, .string wh, .int .i64 xk, .int .i64 xvk, .int .i64 xvn, .string xvt, .string xnm, ve, vb, vl], .int .i64 d] w fun e w' => e = .returned (.bool (Pl.formBy ⟨3, nm, wh, ⟨xk, xvk, xvn, xvt, xnm⟩, ek⟩ b.len l.len (Pl.bodyB b (d - 1)) (Pl.bodyB l (d - 1)))) ∧ Below w.heap.size w w' := by
  have hq1 := hide (fun W => l1Name_any nm hw1 W)
  have hq2 := hide (fun W => l1Name_any wh hw2 W)
  have hqe : Hid (∀ W, Below w.heap.size w W → Calls Tryz.prog 81 #[ndV ⟨xk, xvk, xvn, xvt, xnm⟩ ve] W fun e w' => e = .returned (.bool true) ∧ Below W.heap.size W w') := by
    refine hide fun W hW => ?_
    have := specExprOk_any ⟨xk, xvk, xvn, xvt, xnm⟩ ek ve W hw3 hw4 hw5 he1 he2 (hre.later hW)
    rwa [hok] at this
  have HOK := hide hok
  have hx0 : (xk == 0) = false := okN_kind hok
  have hqb : Hid (∀ W, Below w.heap.size w W → Calls Tryz.prog 35 #[vb, .int .i64 ((d : Int) - 1)] W fun e w' => e = .returned (.bool (Pl.bodyB b (d - 1))) ∧ Below W.heap.size W w') := by
    refine hide fun W hW => ?_
    rw [show (d : Int) - 1 = ((d - 1 : Nat) : Int) by omega]
    exact hkb vb W hwb hb1 hb2 (hrb.later hW)
  have hql : Hid (∀ W, Below w.heap.size w W → Calls Tryz.prog 35 #[vl, .int .i64 ((d : Int) - 1)] W fun e w' => e = .returned (.bool (Pl.bodyB l (d - 1))) ∧ Below W.heap.size W w') := by
    refine hide fun W hW => ?_
    rw [show (d : Int) - 1 = ((d - 1 : Nat) : Int) by omega]
    exact hkl vl W hwl hl1 hl2 (hrl.later hW)
  clear hkb hkl
  clear he2 hb2 hl2 hwb hwl hw5 hw1 hw2 hw3 hw4 hok
  generalize Pl.bodyB b (d - 1) = fb at hqb ⊢
  generalize Pl.bodyB l (d - 1) = fe at hql ⊢
  obtain ⟨ade, cape, rfl, _, _, _⟩ := hre
  obtain ⟨adb, capb, rfl, _, _, _⟩ := hrb
  obtain ⟨adl, capl, rfl, _, _, _⟩ := hrl
  have HX := hide (Box11.mk (sn := ⟨3, nm, wh, ⟨xk, xvk, xvn, xvt, xnm⟩, ek⟩) (ve := .slice ade ek.len cape) (vb := .slice adb b.len capb) (vl := .slice adl l.len capl) (T := 47) w)
  have HA : Hid (Below w.heap.size w (w.alloc (.cells #[.int .i64 3, .string nm, .string wh, .int .i64 xk, .int .i64 xvk, .int .i64 xvn, .string xvt, .string xnm, .slice ade ek.len cape, .slice adb b.len capb, .slice adl l.len capl] 47))) := (Below.refl _ _).alloc (Nat.le_refl _) _
  go_enter Tryz.func58, Tryz.ntmps58
  go_wp2_with fail
  refine (hq1.out _).mono ?_
  rintro e w1 ⟨rfl, hB1⟩
  have HX1 := hide (HX.out.later hB1)
  have HB1 : Hid (Below w.heap.size w w1) := HA.out.trans (hB1.mono (by simp))
  clear HX hB1 HA hq1
  obtain ⟨_, ⟨x0, x1, x2, x3, x4, x5, x6, x7⟩, x8, x9, x10⟩ := HX1.out
  go_wp2_with fail
  refine (hq2.out _).mono ?_
  rintro e w2 ⟨rfl, hB2⟩
  have HX2 := hide (HX1.out.later hB2)
  have HB2 : Hid (Below w.heap.size w w2) := HB1.out.trans (hB2.mono HB1.out.size)
  clear x0 x1 x2 x3 x4 x5 x6 x7 x8 x9 x10 HX1 hB2 HB1 hq2
  obtain ⟨_, ⟨x0, x1, x2, x3, x4, x5, x6, x7⟩, x8, x9, x10⟩ := HX2.out
  go_wp2_with fail
  refine (hqe.out _ HB2.out).mono ?_
  rintro e w3 ⟨rfl, hB3⟩
  have HB3 : Hid (Below w.heap.size w w3) := HB2.out.trans (hB3.mono HB2.out.size)
  have HX3 := hide (HX2.out.later hB3)
  clear x0 x1 x2 x3 x4 x5 x6 x7 x8 x9 x10
  obtain ⟨_, ⟨x0, x1, x2, x3, x4, x5, x6, x7⟩, x8, x9, x10⟩ := HX3.out
  clear hB3 HX2 HB2 hqe
  by_cases e1 : nm.toList.isEmpty = true
  · by_cases e2 : wh.toList.isEmpty = true
    · go_wp2_with fail
      refine (hqb.out _ HB3.out).mono ?_
      rintro e w4 ⟨rfl, hB4⟩
      have HB4 : Hid (Below w.heap.size w w4) := HB3.out.trans (hB4.mono HB3.out.size)
      clear x0 x1 x2 x3 x4 x5 x6 x7 x8 x9 x10
      obtain ⟨_, ⟨x0, x1, x2, x3, x4, x5, x6, x7⟩, x8, x9, x10⟩ := HX3.out.later hB4
      clear hB4 HX3 HB3 hqb
      cases fb
      · go_wp2
        go_ret
        exact ⟨by simp [Pl.formBy], HB4.out⟩
      · by_cases hel : l.len = 0
        · have he0 : ((l.len : Int) == 0) = true := by simp [hel]
          go_wp2
          go_ret
          exact ⟨by simp [Pl.formBy, e1, e2, HOK.out, hel], HB4.out⟩
        · have he0 : ((l.len : Int) == 0) = false := by simp [hel]
          go_wp2_with fail
          refine (hql.out _ HB4.out).mono ?_
          rintro e w5 ⟨rfl, hB5⟩
          go_wp2
          go_ret
          exact ⟨by simp [Pl.formBy, e1, e2, HOK.out, hel], HB4.out.trans (hB5.mono HB4.out.size)⟩
    · have e2' : wh.toList.isEmpty = false := by simpa using e2
      clear e2
      go_wp2
      go_ret
      exact ⟨by simp [Pl.formBy, e1, e2'], HB3.out⟩
  · have e1' : nm.toList.isEmpty = false := by simpa using e1
    clear e1
    go_wp2
    go_ret
    exact ⟨by simp [Pl.formBy, e1'], HB3.out⟩
set_option maxHeartbeats 6400000 in
set_option maxRecDepth 100000 in
theorem l3Form_ok4 (nm wh : ByteArray) (xk xvk xvn : Int) (xvt xnm : ByteArray) (ek : Fo) (b l : Ps) (d : Nat) (hd : 1 ≤ d) (hd4 : d ≤ 4) (hkb : FmP 35 b (d - 1)) (hkl : FmP 35 l (d - 1)) (he1 : ek.len ≤ 1048576) (he2 : ek.Sm) (hb1 : b.len ≤ 1048576) (hb2 : b.Sm) (hl1 : l.len ≤ 1048576) (hl2 : l.Sm)
    (hw1 : nm.size ≤ maxLen) (hw2 : wh.size ≤ maxLen) (hw3 : xvt.size ≤ maxLen) (hw4 : xnm.size ≤ maxLen) (hw5 : ek.Wf) (hwb : b.Wf) (hwl : l.Wf) (ve vb vl : Value) (w : World) (hre : RowAt 0 w ek ve) (hrb : PRow 0 w b vb) (hrl : PRow 0 w l vl) (hok : Pl.okN ⟨xk, xvk, xvn, xvt, xnm⟩ ek 5 = true) :
    Calls Tryz.prog 58 #[.agg #[.int .i64 4, .string nm, .string wh, .int .i64 xk, .int .i64 xvk, .int .i64 xvn, .string xvt, .string xnm, ve, vb, vl], .int .i64 d] w fun e w' => e = .returned (.bool (Pl.formBy ⟨4, nm, wh, ⟨xk, xvk, xvn, xvt, xnm⟩, ek⟩ b.len l.len (Pl.bodyB b (d - 1)) (Pl.bodyB l (d - 1)))) ∧ Below w.heap.size w w' := by
  have hq1 := hide (fun W => l1Name_any nm hw1 W)
  have hq2 := hide (fun W => l1Name_any wh hw2 W)
  have hqe : Hid (∀ W, Below w.heap.size w W → Calls Tryz.prog 81 #[ndV ⟨xk, xvk, xvn, xvt, xnm⟩ ve] W fun e w' => e = .returned (.bool true) ∧ Below W.heap.size W w') := by
    refine hide fun W hW => ?_
    have := specExprOk_any ⟨xk, xvk, xvn, xvt, xnm⟩ ek ve W hw3 hw4 hw5 he1 he2 (hre.later hW)
    rwa [hok] at this
  have HOK := hide hok
  have hx0 : (xk == 0) = false := okN_kind hok
  have hqb : Hid (∀ W, Below w.heap.size w W → Calls Tryz.prog 35 #[vb, .int .i64 ((d : Int) - 1)] W fun e w' => e = .returned (.bool (Pl.bodyB b (d - 1))) ∧ Below W.heap.size W w') := by
    refine hide fun W hW => ?_
    rw [show (d : Int) - 1 = ((d - 1 : Nat) : Int) by omega]
    exact hkb vb W hwb hb1 hb2 (hrb.later hW)
  have hql : Hid (∀ W, Below w.heap.size w W → Calls Tryz.prog 35 #[vl, .int .i64 ((d : Int) - 1)] W fun e w' => e = .returned (.bool (Pl.bodyB l (d - 1))) ∧ Below W.heap.size W w') := by
    refine hide fun W hW => ?_
    rw [show (d : Int) - 1 = ((d - 1 : Nat) : Int) by omega]
    exact hkl vl W hwl hl1 hl2 (hrl.later hW)
  clear hkb hkl
  clear he2 hb2 hl2 hwb hwl hw5 hw1 hw2 hw3 hw4 hok
  generalize Pl.bodyB b (d - 1) = fb at hqb ⊢
  generalize Pl.bodyB l (d - 1) = fe at hql ⊢
  obtain ⟨ade, cape, rfl, _, _, _⟩ := hre
  obtain ⟨adb, capb, rfl, _, _, _⟩ := hrb
  obtain ⟨adl, capl, rfl, _, _, _⟩ := hrl
  have HX := hide (Box11.mk (sn := ⟨4, nm, wh, ⟨xk, xvk, xvn, xvt, xnm⟩, ek⟩) (ve := .slice ade ek.len cape) (vb := .slice adb b.len capb) (vl := .slice adl l.len capl) (T := 47) w)
  have HA : Hid (Below w.heap.size w (w.alloc (.cells #[.int .i64 4, .string nm, .string wh, .int .i64 xk, .int .i64 xvk, .int .i64 xvn, .string xvt, .string xnm, .slice ade ek.len cape, .slice adb b.len capb, .slice adl l.len capl] 47))) := (Below.refl _ _).alloc (Nat.le_refl _) _
  go_enter Tryz.func58, Tryz.ntmps58
  go_wp2_with fail
  refine (hq1.out _).mono ?_
  rintro e w1 ⟨rfl, hB1⟩
  have HX1 := hide (HX.out.later hB1)
  have HB1 : Hid (Below w.heap.size w w1) := HA.out.trans (hB1.mono (by simp))
  clear HX hB1 HA hq1
  obtain ⟨_, ⟨x0, x1, x2, x3, x4, x5, x6, x7⟩, x8, x9, x10⟩ := HX1.out
  go_wp2_with fail
  refine (hq2.out _).mono ?_
  rintro e w2 ⟨rfl, hB2⟩
  have HX2 := hide (HX1.out.later hB2)
  have HB2 : Hid (Below w.heap.size w w2) := HB1.out.trans (hB2.mono HB1.out.size)
  clear x0 x1 x2 x3 x4 x5 x6 x7 x8 x9 x10 HX1 hB2 HB1 hq2
  obtain ⟨_, ⟨x0, x1, x2, x3, x4, x5, x6, x7⟩, x8, x9, x10⟩ := HX2.out
  go_wp2_with fail
  refine (hqe.out _ HB2.out).mono ?_
  rintro e w3 ⟨rfl, hB3⟩
  have HB3 : Hid (Below w.heap.size w w3) := HB2.out.trans (hB3.mono HB2.out.size)
  have HX3 := hide (HX2.out.later hB3)
  clear x0 x1 x2 x3 x4 x5 x6 x7 x8 x9 x10
  obtain ⟨_, ⟨x0, x1, x2, x3, x4, x5, x6, x7⟩, x8, x9, x10⟩ := HX3.out
  clear hB3 HX2 HB2 hqe
  by_cases e1 : nm.toList.isEmpty = true
  · by_cases e2 : wh.toList.isEmpty = true
    · go_wp2_with fail
      refine (hqb.out _ HB3.out).mono ?_
      rintro e w4 ⟨rfl, hB4⟩
      have HB4 : Hid (Below w.heap.size w w4) := HB3.out.trans (hB4.mono HB3.out.size)
      clear x0 x1 x2 x3 x4 x5 x6 x7 x8 x9 x10
      obtain ⟨_, ⟨x0, x1, x2, x3, x4, x5, x6, x7⟩, x8, x9, x10⟩ := HX3.out.later hB4
      clear hB4 HX3 HB3 hqb
      cases fb
      · go_wp2
        go_ret
        exact ⟨by simp [Pl.formBy], HB4.out⟩
      · by_cases hel : l.len = 0
        · have he0 : ((l.len : Int) == 0) = true := by simp [hel]
          go_wp2
          go_ret
          exact ⟨by simp [Pl.formBy, e1, e2, HOK.out, hel], HB4.out⟩
        · have he0 : ((l.len : Int) == 0) = false := by simp [hel]
          go_wp2
          go_ret
          exact ⟨by simp [Pl.formBy, e1, e2, HOK.out, hel], HB4.out⟩
    · have e2' : wh.toList.isEmpty = false := by simpa using e2
      clear e2
      go_wp2
      go_ret
      exact ⟨by simp [Pl.formBy, e1, e2'], HB3.out⟩
  · have e1' : nm.toList.isEmpty = false := by simpa using e1
    clear e1
    go_wp2
    go_ret
    exact ⟨by simp [Pl.formBy, e1'], HB3.out⟩
end Go.Proofs.YtnikomgdcddchaaGreat

/- Whether steps have their form, as the specification has it: kinds without an expression. -/
namespace Go.Proofs.YtnikomgdcddchaaGreat
open Go.RowKit
set_option linter.unusedVariables false

set_option maxHeartbeats 6400000 in
set_option maxRecDepth 100000 in
theorem l3Form_no7 (nm wh : ByteArray) (xk xvk xvn : Int) (xvt xnm : ByteArray) (ek : Fo) (b l : Ps) (d : Nat) (hd : 1 ≤ d) (hd4 : d ≤ 4) (he1 : ek.len ≤ 1048576) (he2 : ek.Sm) (hb1 : b.len ≤ 1048576) (hb2 : b.Sm) (hl1 : l.len ≤ 1048576) (hl2 : l.Sm)
    (hw1 : nm.size ≤ maxLen) (hw2 : wh.size ≤ maxLen) (hw3 : xvt.size ≤ maxLen) (hw4 : xnm.size ≤ maxLen) (hw5 : ek.Wf) (hwb : b.Wf) (hwl : l.Wf) (ve vb vl : Value) (w : World) (hre : RowAt 0 w ek ve) (hrb : PRow 0 w b vb) (hrl : PRow 0 w l vl) (hok : Pl.okN ⟨xk, xvk, xvn, xvt, xnm⟩ ek 5 = false) :
    Calls Tryz.prog 58 #[.agg #[.int .i64 7, .string nm, .string wh, .int .i64 xk, .int .i64 xvk, .int .i64 xvn, .string xvt, .string xnm, ve, vb, vl], .int .i64 d] w fun e w' => e = .returned (.bool (Pl.formBy ⟨7, nm, wh, ⟨xk, xvk, xvn, xvt, xnm⟩, ek⟩ b.len l.len (Pl.bodyB b (d - 1)) (Pl.bodyB l (d - 1)))) ∧ Below w.heap.size w w' := by
  have hq1 := hide (fun W => l1Name_any nm hw1 W)
  have hq2 := hide (fun W => l1Name_any wh hw2 W)
  have hqe : Hid (∀ W, Below w.heap.size w W → Calls Tryz.prog 81 #[ndV ⟨xk, xvk, xvn, xvt, xnm⟩ ve] W fun e w' => e = .returned (.bool false) ∧ Below W.heap.size W w') := by
    refine hide fun W hW => ?_
    have := specExprOk_any ⟨xk, xvk, xvn, xvt, xnm⟩ ek ve W hw3 hw4 hw5 he1 he2 (hre.later hW)
    rwa [hok] at this
  clear he2 hb2 hl2 hwb hwl hw5 hw1 hw2 hw3 hw4 hok
  generalize Pl.bodyB b (d - 1) = fb
  generalize Pl.bodyB l (d - 1) = fe
  have HN : Hid (∀ xk xvk xvn xvt xnm, Pl.noneB ⟨xk, xvk, xvn, xvt, xnm⟩ ek = ((xk == 0) && (xnm.toList.isEmpty && ((ek.len == 0) && ((xvk == 0) && ((xvn == 0) && xvt.toList.isEmpty)))))) := fun _ _ _ _ _ => rfl
  obtain ⟨ade, cape, rfl, _, _, _⟩ := hre
  obtain ⟨adb, capb, rfl, _, _, _⟩ := hrb
  obtain ⟨adl, capl, rfl, _, _, _⟩ := hrl
  generalize ek.len = el at *
  have HX := hide (Box11.mk (sn := ⟨7, nm, wh, ⟨xk, xvk, xvn, xvt, xnm⟩, ek⟩) (ve := .slice ade el cape) (vb := .slice adb b.len capb) (vl := .slice adl l.len capl) (T := 47) w)
  have HA : Hid (Below w.heap.size w (w.alloc (.cells #[.int .i64 7, .string nm, .string wh, .int .i64 xk, .int .i64 xvk, .int .i64 xvn, .string xvt, .string xnm, .slice ade el cape, .slice adb b.len capb, .slice adl l.len capl] 47))) := (Below.refl _ _).alloc (Nat.le_refl _) _
  go_enter Tryz.func58, Tryz.ntmps58
  go_wp2_with fail
  refine (hq1.out _).mono ?_
  rintro e w1 ⟨rfl, hB1⟩
  have HX1 := hide (HX.out.later hB1)
  have HB1 : Hid (Below w.heap.size w w1) := HA.out.trans (hB1.mono (by simp))
  clear HX hB1 HA hq1
  obtain ⟨_, ⟨x0, x1, x2, x3, x4, x5, x6, x7⟩, x8, x9, x10⟩ := HX1.out
  go_wp2_with fail
  refine (hq2.out _).mono ?_
  rintro e w2 ⟨rfl, hB2⟩
  have HX2 := hide (HX1.out.later hB2)
  have HB2 : Hid (Below w.heap.size w w2) := HB1.out.trans (hB2.mono HB1.out.size)
  clear x0 x1 x2 x3 x4 x5 x6 x7 x8 x9 x10 HX1 hB2 HB1 hq2
  obtain ⟨_, ⟨x0, x1, x2, x3, x4, x5, x6, x7⟩, x8, x9, x10⟩ := HX2.out
  go_wp2_with fail
  all_goals
    subst_vars
    refine (hqe.out _ HB2.out).mono ?_
    rintro e w3 ⟨rfl, hB3⟩
    have HB3 : Hid (Below w.heap.size w w3) := HB2.out.trans (hB3.mono HB2.out.size)
    clear x0 x1 x2 x3 x4 x5 x6 x7 x8 x9 x10
    obtain ⟨_, ⟨x0, x1, x2, x3, x4, x5, x6, x7⟩, x8, x9, x10⟩ := HX2.out.later hB3
    clear hB3 HX2 HB2 hqe
    go_wp2
    all_goals
      go_ret
      refine ⟨?_, HB3.out⟩
      clear x0 x1 x2 x3 x4 x5 x6 x7 x8 x9 x10 HB3
      simp_all [Pl.formBy, HN.out]
set_option maxHeartbeats 6400000 in
set_option maxRecDepth 100000 in
theorem l3Form_no9 (nm wh : ByteArray) (xk xvk xvn : Int) (xvt xnm : ByteArray) (ek : Fo) (b l : Ps) (d : Nat) (hd : 1 ≤ d) (hd4 : d ≤ 4) (he1 : ek.len ≤ 1048576) (he2 : ek.Sm) (hb1 : b.len ≤ 1048576) (hb2 : b.Sm) (hl1 : l.len ≤ 1048576) (hl2 : l.Sm)
    (hw1 : nm.size ≤ maxLen) (hw2 : wh.size ≤ maxLen) (hw3 : xvt.size ≤ maxLen) (hw4 : xnm.size ≤ maxLen) (hw5 : ek.Wf) (hwb : b.Wf) (hwl : l.Wf) (ve vb vl : Value) (w : World) (hre : RowAt 0 w ek ve) (hrb : PRow 0 w b vb) (hrl : PRow 0 w l vl) (hok : Pl.okN ⟨xk, xvk, xvn, xvt, xnm⟩ ek 5 = false) :
    Calls Tryz.prog 58 #[.agg #[.int .i64 9, .string nm, .string wh, .int .i64 xk, .int .i64 xvk, .int .i64 xvn, .string xvt, .string xnm, ve, vb, vl], .int .i64 d] w fun e w' => e = .returned (.bool (Pl.formBy ⟨9, nm, wh, ⟨xk, xvk, xvn, xvt, xnm⟩, ek⟩ b.len l.len (Pl.bodyB b (d - 1)) (Pl.bodyB l (d - 1)))) ∧ Below w.heap.size w w' := by
  have hq1 := hide (fun W => l1Name_any nm hw1 W)
  have hq2 := hide (fun W => l1Name_any wh hw2 W)
  have hqe : Hid (∀ W, Below w.heap.size w W → Calls Tryz.prog 81 #[ndV ⟨xk, xvk, xvn, xvt, xnm⟩ ve] W fun e w' => e = .returned (.bool false) ∧ Below W.heap.size W w') := by
    refine hide fun W hW => ?_
    have := specExprOk_any ⟨xk, xvk, xvn, xvt, xnm⟩ ek ve W hw3 hw4 hw5 he1 he2 (hre.later hW)
    rwa [hok] at this
  clear he2 hb2 hl2 hwb hwl hw5 hw1 hw2 hw3 hw4 hok
  generalize Pl.bodyB b (d - 1) = fb
  generalize Pl.bodyB l (d - 1) = fe
  have HN : Hid (∀ xk xvk xvn xvt xnm, Pl.noneB ⟨xk, xvk, xvn, xvt, xnm⟩ ek = ((xk == 0) && (xnm.toList.isEmpty && ((ek.len == 0) && ((xvk == 0) && ((xvn == 0) && xvt.toList.isEmpty)))))) := fun _ _ _ _ _ => rfl
  obtain ⟨ade, cape, rfl, _, _, _⟩ := hre
  obtain ⟨adb, capb, rfl, _, _, _⟩ := hrb
  obtain ⟨adl, capl, rfl, _, _, _⟩ := hrl
  generalize ek.len = el at *
  have HX := hide (Box11.mk (sn := ⟨9, nm, wh, ⟨xk, xvk, xvn, xvt, xnm⟩, ek⟩) (ve := .slice ade el cape) (vb := .slice adb b.len capb) (vl := .slice adl l.len capl) (T := 47) w)
  have HA : Hid (Below w.heap.size w (w.alloc (.cells #[.int .i64 9, .string nm, .string wh, .int .i64 xk, .int .i64 xvk, .int .i64 xvn, .string xvt, .string xnm, .slice ade el cape, .slice adb b.len capb, .slice adl l.len capl] 47))) := (Below.refl _ _).alloc (Nat.le_refl _) _
  go_enter Tryz.func58, Tryz.ntmps58
  go_wp2_with fail
  refine (hq1.out _).mono ?_
  rintro e w1 ⟨rfl, hB1⟩
  have HX1 := hide (HX.out.later hB1)
  have HB1 : Hid (Below w.heap.size w w1) := HA.out.trans (hB1.mono (by simp))
  clear HX hB1 HA hq1
  obtain ⟨_, ⟨x0, x1, x2, x3, x4, x5, x6, x7⟩, x8, x9, x10⟩ := HX1.out
  go_wp2_with fail
  refine (hq2.out _).mono ?_
  rintro e w2 ⟨rfl, hB2⟩
  have HX2 := hide (HX1.out.later hB2)
  have HB2 : Hid (Below w.heap.size w w2) := HB1.out.trans (hB2.mono HB1.out.size)
  clear x0 x1 x2 x3 x4 x5 x6 x7 x8 x9 x10 HX1 hB2 HB1 hq2
  obtain ⟨_, ⟨x0, x1, x2, x3, x4, x5, x6, x7⟩, x8, x9, x10⟩ := HX2.out
  go_wp2_with fail
  all_goals
    subst_vars
    refine (hqe.out _ HB2.out).mono ?_
    rintro e w3 ⟨rfl, hB3⟩
    have HB3 : Hid (Below w.heap.size w w3) := HB2.out.trans (hB3.mono HB2.out.size)
    clear x0 x1 x2 x3 x4 x5 x6 x7 x8 x9 x10
    obtain ⟨_, ⟨x0, x1, x2, x3, x4, x5, x6, x7⟩, x8, x9, x10⟩ := HX2.out.later hB3
    clear hB3 HX2 HB2 hqe
    go_wp2
    all_goals
      go_ret
      refine ⟨?_, HB3.out⟩
      clear x0 x1 x2 x3 x4 x5 x6 x7 x8 x9 x10 HB3
      simp_all [Pl.formBy, HN.out]
end Go.Proofs.YtnikomgdcddchaaGreat

/- Whether steps have their form, as the specification has it: at every kind and depth. -/
namespace Go.Proofs.YtnikomgdcddchaaGreat
open Go.RowKit
set_option linter.unusedVariables false

theorem formBy_bad {k : Int} {nm wh : ByteArray} {ex : Nd} {ek : Fo} {bl el : Nat} {fb fe : Bool} (hok : Pl.okN ex ek 5 = false) (k7 : k ≠ 7) (k9 : k ≠ 9) : Pl.formBy ⟨k, nm, wh, ex, ek⟩ bl el fb fe = false := by
  unfold Pl.formBy
  simp only [hok, k7, k9, Bool.false_and, Bool.and_false, or_self, if_false, ite_self]
theorem l3Form_of (sn : Sn) (b l : Ps) (d : Nat) (hd : 1 ≤ d) (hd4 : d ≤ 4) (hkb : FmP 35 b (d - 1)) (hkl : FmP 35 l (d - 1)) (he : sn.ek.len ≤ 1048576 ∧ sn.ek.Sm) (hb : b.len ≤ 1048576 ∧ b.Sm) (hl : l.len ≤ 1048576 ∧ l.Sm)
    (hw : sn.nm.size ≤ maxLen ∧ sn.wh.size ≤ maxLen ∧ sn.ex.vt.size ≤ maxLen ∧ sn.ex.nm.size ≤ maxLen ∧ sn.ek.Wf) (hwb : b.Wf) (hwl : l.Wf) (ve vb vl : Value) (w : World) (hre : RowAt 0 w sn.ek ve) (hrb : PRow 0 w b vb) (hrl : PRow 0 w l vl) :
    Calls Tryz.prog 58 #[snV sn ve vb vl, .int .i64 d] w fun e w' => e = .returned (.bool (Pl.formS sn b l d)) ∧ Below w.heap.size w w' := by
  obtain ⟨k, nm, wh, ⟨xk, xvk, xvn, xvt, xnm⟩, ek⟩ := sn
  obtain ⟨w1, w2, w3, w4, w5⟩ := hw
  unfold Pl.formS
  cases hok : Pl.okN ⟨xk, xvk, xvn, xvt, xnm⟩ ek 5
  · by_cases k7 : k = 7
    · subst k7
      exact l3Form_no7 nm wh xk xvk xvn xvt xnm ek b l d hd hd4 he.1 he.2 hb.1 hb.2 hl.1 hl.2 w1 w2 w3 w4 w5 hwb hwl ve vb vl w hre hrb hrl hok
    by_cases k9 : k = 9
    · subst k9
      exact l3Form_no9 nm wh xk xvk xvn xvt xnm ek b l d hd hd4 he.1 he.2 hb.1 hb.2 hl.1 hl.2 w1 w2 w3 w4 w5 hwb hwl ve vb vl w hre hrb hrl hok
    rw [formBy_bad hok k7 k9]
    exact l3Form_bad k nm wh xk xvk xvn xvt xnm ek b l d hd hd4 he.1 he.2 hb.1 hl.1 w1 w2 w3 w4 w5 ve vb vl w hre hrb hrl hok k7 k9
  · by_cases k3 : k = 3
    · subst k3
      exact l3Form_ok3 nm wh xk xvk xvn xvt xnm ek b l d hd hd4 hkb hkl he.1 he.2 hb.1 hb.2 hl.1 hl.2 w1 w2 w3 w4 w5 hwb hwl ve vb vl w hre hrb hrl hok
    by_cases k4 : k = 4
    · subst k4
      exact l3Form_ok4 nm wh xk xvk xvn xvt xnm ek b l d hd hd4 hkb hkl he.1 he.2 hb.1 hb.2 hl.1 hl.2 w1 w2 w3 w4 w5 hwb hwl ve vb vl w hre hrb hrl hok
    exact l3Form_ok k nm wh xk xvk xvn xvt xnm ek b l d hd hd4 he.1 he.2 hb.1 hb.2 hl.1 hl.2 w1 w2 w3 w4 w5 hwb hwl ve vb vl w hre hrb hrl hok k3 k4

set_option maxHeartbeats 1600000 in
theorem l3Body_of (F : Ps) (d : Nat) (hd4 : d ≤ 4) (ih : 1 ≤ d → ∀ i sn b e, F.get i = some (sn, b, e) → FmP 35 b (d - 1) ∧ FmP 35 e (d - 1)) : FmP 35 F d := by
  intro v w hwf hl hs hr
  obtain ⟨ad, cap, rfl, hc, hm, hx⟩ := hr
  unfold maxLen at hm
  have HX := hide hx
  have IH := hide ih
  have HW := hide hwf
  have HS0 := hide hs
  clear hx ih hwf hs
  by_cases hd : 1 ≤ d
  · have dl : ((d : Int) < 1) = False := by simp; omega
    have hin := hide (in_any F.len 1 8)
    by_cases hlen : 1 ≤ F.len ∧ F.len ≤ 8
    · have hN : Hid (Pl.bodyB F d = Pl.formF F d) := by show _ = _; simp [Pl.bodyB, hd, hlen]
      have hi1 : (decide ((1 : Int) ≤ F.len) && decide ((F.len : Int) ≤ 8)) = true := by simp; omega
      rw [hi1] at hin
      clear hi1
      go_enter Tryz.func35, Tryz.ntmps35
      go_wp2_with fail
      refine (hin.out _).mono ?_
      rintro e w1 ⟨rfl, rfl⟩
      go_wp2_with fail
      go_loopw [5] (fun iv wr => ∃ i : Nat, i ≤ F.len ∧ iv = .int .i64 i ∧ Hid (∀ j sn b e, j < i → F.get j = some (sn, b, e) → Pl.formS sn b e d = true) ∧ Hid (Below w1.heap.size w1 wr)) (fun iv _ => F.len - (intOf iv).toNat)
      case atStart => exact ⟨0, by omega, rfl, hide (fun j _ _ _ hj => by omega), hide (Below.refl _ _)⟩
      case round =>
        obtain ⟨i, hi, rfl, HS, hB⟩ := hrel
        by_cases hlt : i < F.len
        · obtain ⟨g, off, rfl, _, hg, hfo⟩ := HX.out (by omega)
          obtain ⟨sn, b, e, hget⟩ := F.get_some i hlt
          obtain ⟨ve, vb, vl, hst⟩ := hfo.get hget
          obtain ⟨⟨d0, d1, d2, d3, d4, d5, d6, d7⟩, ⟨d8, q8⟩, ⟨d9, q9⟩, ⟨d10, q10⟩⟩ := hst.later hB.out hg
          obtain ⟨s1, s2, s3⟩ := HS0.out.get hget
          obtain ⟨x1, x2, x3⟩ := HW.out.get hget
          have hq := hide (l3Form_of sn b e d hd hd4 (IH.out hd i sn b e hget).1 (IH.out hd i sn b e hget).2 s1 s2 s3 x1 x2 x3 ve vb vl wr q8 q9 q10)
          have HG := hide hget
          obtain ⟨_, _, rfl, _, _, _⟩ := q8
          obtain ⟨_, _, rfl, _, _, _⟩ := q9
          obtain ⟨_, _, rfl, _, _, _⟩ := q10
          clear hfo hst hget s1 s2 s3 x1 x2 x3
          have hii : (i : Int) < (F.len : Int) := by omega
          go_wp2_with fail
          refine hq.out.mono ?_
          rintro e' w4 ⟨rfl, hB4⟩
          have HB4 : Hid (Below w1.heap.size w1 w4) := hB.out.trans (hB4.mono hB.out.size)
          clear hq d0 d1 d2 d3 d4 d5 d6 d7 d8 d9 d10 hB4
          cases hon : Pl.formS sn b e d
          · have hall : Hid (Pl.formF F d = false) := Pl.formF_not F d i sn b e HG.out hon
            go_wp2
            go_ret
            exact ⟨by rw [hN.out, hall.out]; rfl, HB4.out⟩
          · have HS' : Hid (∀ j sn b e, j < i + 1 → F.get j = some (sn, b, e) → Pl.formS sn b e d = true) := by
              refine hide fun j sn' b' e' hj hk => ?_
              by_cases hji : j = i
              · subst hji
                rw [HG.out] at hk
                cases hk
                exact hon
              · exact HS.out j sn' b' e' (by omega) hk
            clear hon
            go_wp2
            go_roundw
            case rel => exact ⟨i + 1, by omega, by go_num, HS', HB4⟩
            case measure => simp [intOf]; omega
        · have hie : i = F.len := by omega
          have hall : Hid (Pl.formF F d = true) := hide (Pl.formF_all F d fun j sn b e hk => HS.out j sn b e (by have := Ps.get_lt hk; omega) hk)
          go_wp2
          go_ret
          exact ⟨by rw [hN.out, hall.out]; rfl, hB.out⟩
    · have hN : Hid (Pl.bodyB F d = false) := by
        show _ = _
        by_cases h1 : 1 ≤ F.len
        · have h2 : ¬ F.len ≤ 8 := fun h => hlen ⟨h1, h⟩
          simp [Pl.bodyB, h2]
        · simp [Pl.bodyB, h1]
      have hi1 : (decide ((1 : Int) ≤ F.len) && decide ((F.len : Int) ≤ 8)) = false := by
        simp only [Bool.and_eq_false_iff, decide_eq_false_iff_not]
        omega
      rw [hi1] at hin
      clear hi1 hlen
      go_enter Tryz.func35, Tryz.ntmps35
      go_wp2_with fail
      refine (hin.out _).mono ?_
      rintro e w1 ⟨rfl, rfl⟩
      go_wp2
      go_ret
      exact ⟨by rw [hN.out]; rfl, Below.refl _ _⟩
  · have hd0 : d = 0 := by omega
    subst hd0
    have hN : Hid (Pl.bodyB F 0 = false) := by show _ = _; simp [Pl.bodyB]
    go_enter Tryz.func35, Tryz.ntmps35
    go_wp2
    go_ret
    exact ⟨by rw [hN.out]; rfl, Below.refl _ _⟩
theorem l3Body_any : ∀ (d : Nat) (F : Ps), d ≤ 4 → FmP 35 F d
  | 0, F, h => l3Body_of F 0 h fun h1 => by omega
  | d + 1, F, h => l3Body_of F (d + 1) h fun _ i sn b e _ => ⟨l3Body_any d b (by omega), l3Body_any d e (by omega)⟩
end Go.Proofs.YtnikomgdcddchaaGreat
