/- Whether steps have their form, as the specification has it: an expression that is ok. -/
import Derived.Test.YtckdpdlkjgjadaaPFmD
namespace Go.Proofs.Ytckdpdlkjgjadaa
open Go.RowKit
set_option linter.unusedVariables false

theorem okN_kind {xk xvk xvn : Int} {xvt xnm : ByteArray} {ek : Fo} (h : Pl.okN ⟨xk, xvk, xvn, xvt, xnm⟩ ek 5 = true) : (xk == 0) = false := by
  apply beq_eq_false_iff_ne.2
  intro h0
  subst h0
  simp only [Pl.okN, Bool.and_eq_true, decide_eq_true_eq, beq_iff_eq] at h
  have := h.1.2.1
  simp [Pl.arity] at this
set_option maxHeartbeats 6400000 in
set_option maxRecDepth 100000 in
theorem l3Form_ok (k : Int) (nm wh : ByteArray) (xk xvk xvn : Int) (xvt xnm : ByteArray) (ek : Fo) (b l : Ps) (d : Nat) (hd : 1 ≤ d) (hd4 : d ≤ 4) (he1 : ek.len ≤ 1048576) (he2 : ek.Sm) (hb1 : b.len ≤ 1048576) (hb2 : b.Sm) (hl1 : l.len ≤ 1048576) (hl2 : l.Sm)
    (hw1 : nm.size ≤ maxLen) (hw2 : wh.size ≤ maxLen) (hw3 : xvt.size ≤ maxLen) (hw4 : xnm.size ≤ maxLen) (hw5 : ek.Wf) (hwb : b.Wf) (hwl : l.Wf) (ve vb vl : Value) (w : World) (hre : RowAt 0 w ek ve) (hrb : PRow 0 w b vb) (hrl : PRow 0 w l vl) (hok : Pl.okN ⟨xk, xvk, xvn, xvt, xnm⟩ ek 5 = true) (k3 : k ≠ 3) (k4 : k ≠ 4) :
    Calls Try.prog 63 #[.agg #[.int .i64 k, .string nm, .string wh, .int .i64 xk, .int .i64 xvk, .int .i64 xvn, .string xvt, .string xnm, ve, vb, vl], .int .i64 d] w fun e w' => e = .returned (.bool (Pl.formBy ⟨k, nm, wh, ⟨xk, xvk, xvn, xvt, xnm⟩, ek⟩ b.len l.len (Pl.bodyB b (d - 1)) (Pl.bodyB l (d - 1)))) ∧ Below w.heap.size w w' := by
  have hq1 := hide (fun W => l1Name_any nm hw1 W)
  have hq2 := hide (fun W => l1Name_any wh hw2 W)
  have hqe : Hid (∀ W, Below w.heap.size w W → Calls Try.prog 8 #[ndV ⟨xk, xvk, xvn, xvt, xnm⟩ ve] W fun e w' => e = .returned (.bool true) ∧ Below W.heap.size W w') := by
    refine hide fun W hW => ?_
    have := specExprOk_any ⟨xk, xvk, xvn, xvt, xnm⟩ ek ve W hw3 hw4 hw5 he1 he2 (hre.later hW)
    rwa [hok] at this
  have kk3 : (k == 3) = false := beq_eq_false_iff_ne.2 k3
  have kk4 : (k == 4) = false := beq_eq_false_iff_ne.2 k4
  have HOK := hide hok
  have HNO : Hid (Pl.noneB ⟨xk, xvk, xvn, xvt, xnm⟩ ek = false) := by
    show _ = _
    simp only [Pl.noneB, okN_kind hok, Bool.false_and]
  have hx0 : (xk == 0) = false := okN_kind hok
  clear he2 hb2 hl2 hwb hwl hw5 hw1 hw2 hw3 hw4 hok k3 k4
  generalize Pl.bodyB b (d - 1) = fb
  generalize Pl.bodyB l (d - 1) = fe
  obtain ⟨ade, cape, rfl, _, _, _⟩ := hre
  obtain ⟨adb, capb, rfl, _, _, _⟩ := hrb
  obtain ⟨adl, capl, rfl, _, _, _⟩ := hrl
  have HX := hide (Box11.mk (sn := ⟨k, nm, wh, ⟨xk, xvk, xvn, xvt, xnm⟩, ek⟩) (ve := .slice ade ek.len cape) (vb := .slice adb b.len capb) (vl := .slice adl l.len capl) (T := 81) w)
  have HA : Hid (Below w.heap.size w (w.alloc (.cells #[.int .i64 k, .string nm, .string wh, .int .i64 xk, .int .i64 xvk, .int .i64 xvn, .string xvt, .string xnm, .slice ade ek.len cape, .slice adb b.len capb, .slice adl l.len capl] 81))) := (Below.refl _ _).alloc (Nat.le_refl _) _
  go_enter Try.func63, Try.ntmps63
  go_wp2_with fail
  refine (hq1.out _).mono ?_
  rintro e w1 ⟨rfl, hB1⟩
  have HX1 := hide (HX.out.later hB1)
  have HB1 : Hid (Below w.heap.size w w1) := HA.out.trans (hB1.mono (by simp))
  clear HX hB1 HA hq1
  obtain ⟨_, ⟨x0, x1, x2, x3, x4, x5, x6, x7⟩, x8, x9, x10⟩ := HX1.out
  go_wp2_with fail
  refine (hq2.out _).mono ?_
  rintro e w2 ⟨rfl, hB2⟩
  have HX2 := hide (HX1.out.later hB2)
  have HB2 : Hid (Below w.heap.size w w2) := HB1.out.trans (hB2.mono HB1.out.size)
  clear x0 x1 x2 x3 x4 x5 x6 x7 x8 x9 x10 HX1 hB2 HB1 hq2
  obtain ⟨_, ⟨x0, x1, x2, x3, x4, x5, x6, x7⟩, x8, x9, x10⟩ := HX2.out
  go_wp2_with fail
  refine (hqe.out _ HB2.out).mono ?_
  rintro e w3 ⟨rfl, hB3⟩
  have HB3 : Hid (Below w.heap.size w w3) := HB2.out.trans (hB3.mono HB2.out.size)
  have HX3 := hide (HX2.out.later hB3)
  clear x0 x1 x2 x3 x4 x5 x6 x7 x8 x9 x10
  obtain ⟨_, ⟨x0, x1, x2, x3, x4, x5, x6, x7⟩, x8, x9, x10⟩ := HX3.out
  clear hB3 HX2 HB2 hqe
  go_wp2
  all_goals
    go_ret
    refine ⟨?_, HB3.out⟩
    clear x0 x1 x2 x3 x4 x5 x6 x7 x8 x9 x10 HX3 HB3 hx0
    simp_all [Pl.formBy, HOK.out, HNO.out]
set_option maxHeartbeats 6400000 in
set_option maxRecDepth 100000 in
theorem l3Form_ok3 (nm wh : ByteArray) (xk xvk xvn : Int) (xvt xnm : ByteArray) (ek : Fo) (b l : Ps) (d : Nat) (hd : 1 ≤ d) (hd4 : d ≤ 4) (hkb : FmP 41 b (d - 1)) (hkl : FmP 41 l (d - 1)) (he1 : ek.len ≤ 1048576) (he2 : ek.Sm) (hb1 : b.len ≤ 1048576) (hb2 : b.Sm) (hl1 : l.len ≤ 1048576) (hl2 : l.Sm)
    (hw1 : nm.size ≤ maxLen) (hw2 : wh.size ≤ maxLen) (hw3 : xvt.size ≤ maxLen) (hw4 : xnm.size ≤ maxLen) (hw5 : ek.Wf) (hwb : b.Wf) (hwl : l.Wf) (ve vb vl : Value) (w : World) (hre : RowAt 0 w ek ve) (hrb : PRow 0 w b vb) (hrl : PRow 0 w l vl) (hok : Pl.okN ⟨xk, xvk, xvn, xvt, xnm⟩ ek 5 = true) :
    Calls Try.prog 63 #[.agg #[.int .i64 3, .string nm, .string wh, .int .i64 xk, .int .i64 xvk, .int .i64 xvn, .string xvt, .string xnm, ve, vb, vl], .int .i64 d] w fun e w' => e = .returned (.bool (Pl.formBy ⟨3, nm, wh, ⟨xk, xvk, xvn, xvt, xnm⟩, ek⟩ b.len l.len (Pl.bodyB b (d - 1)) (Pl.bodyB l (d - 1)))) ∧ Below w.heap.size w w' := by
  have hq1 := hide (fun W => l1Name_any nm hw1 W)
  have hq2 := hide (fun W => l1Name_any wh hw2 W)
  have hqe : Hid (∀ W, Below w.heap.size w W → Calls Try.prog 8 #[ndV ⟨xk, xvk, xvn, xvt, xnm⟩ ve] W fun e w' => e = .returned (.bool true) ∧ Below W.heap.size W w') := by
    refine hide fun W hW => ?_
    have := specExprOk_any ⟨xk, xvk, xvn, xvt, xnm⟩ ek ve W hw3 hw4 hw5 he1 he2 (hre.later hW)
    rwa [hok] at this
  have HOK := hide hok
  have hx0 : (xk == 0) = false := okN_kind hok
  have hqb : Hid (∀ W, Below w.heap.size w W → Calls Try.prog 41 #[vb, .int .i64 ((d : Int) - 1)] W fun e w' => e = .returned (.bool (Pl.bodyB b (d - 1))) ∧ Below W.heap.size W w') := by
    refine hide fun W hW => ?_
    rw [show (d : Int) - 1 = ((d - 1 : Nat) : Int) by omega]
    exact hkb vb W hwb hb1 hb2 (hrb.later hW)
  have hql : Hid (∀ W, Below w.heap.size w W → Calls Try.prog 41 #[vl, .int .i64 ((d : Int) - 1)] W fun e w' => e = .returned (.bool (Pl.bodyB l (d - 1))) ∧ Below W.heap.size W w') := by
    refine hide fun W hW => ?_
    rw [show (d : Int) - 1 = ((d - 1 : Nat) : Int) by omega]
    exact hkl vl W hwl hl1 hl2 (hrl.later hW)
  clear hkb hkl
  clear he2 hb2 hl2 hwb hwl hw5 hw1 hw2 hw3 hw4 hok
  generalize Pl.bodyB b (d - 1) = fb at hqb ⊢
  generalize Pl.bodyB l (d - 1) = fe at hql ⊢
  obtain ⟨ade, cape, rfl, _, _, _⟩ := hre
  obtain ⟨adb, capb, rfl, _, _, _⟩ := hrb
  obtain ⟨adl, capl, rfl, _, _, _⟩ := hrl
  have HX := hide (Box11.mk (sn := ⟨3, nm, wh, ⟨xk, xvk, xvn, xvt, xnm⟩, ek⟩) (ve := .slice ade ek.len cape) (vb := .slice adb b.len capb) (vl := .slice adl l.len capl) (T := 81) w)
  have HA : Hid (Below w.heap.size w (w.alloc (.cells #[.int .i64 3, .string nm, .string wh, .int .i64 xk, .int .i64 xvk, .int .i64 xvn, .string xvt, .string xnm, .slice ade ek.len cape, .slice adb b.len capb, .slice adl l.len capl] 81))) := (Below.refl _ _).alloc (Nat.le_refl _) _
  go_enter Try.func63, Try.ntmps63
  go_wp2_with fail
  refine (hq1.out _).mono ?_
  rintro e w1 ⟨rfl, hB1⟩
  have HX1 := hide (HX.out.later hB1)
  have HB1 : Hid (Below w.heap.size w w1) := HA.out.trans (hB1.mono (by simp))
  clear HX hB1 HA hq1
  obtain ⟨_, ⟨x0, x1, x2, x3, x4, x5, x6, x7⟩, x8, x9, x10⟩ := HX1.out
  go_wp2_with fail
  refine (hq2.out _).mono ?_
  rintro e w2 ⟨rfl, hB2⟩
  have HX2 := hide (HX1.out.later hB2)
  have HB2 : Hid (Below w.heap.size w w2) := HB1.out.trans (hB2.mono HB1.out.size)
  clear x0 x1 x2 x3 x4 x5 x6 x7 x8 x9 x10 HX1 hB2 HB1 hq2
  obtain ⟨_, ⟨x0, x1, x2, x3, x4, x5, x6, x7⟩, x8, x9, x10⟩ := HX2.out
  go_wp2_with fail
  refine (hqe.out _ HB2.out).mono ?_
  rintro e w3 ⟨rfl, hB3⟩
  have HB3 : Hid (Below w.heap.size w w3) := HB2.out.trans (hB3.mono HB2.out.size)
  have HX3 := hide (HX2.out.later hB3)
  clear x0 x1 x2 x3 x4 x5 x6 x7 x8 x9 x10
  obtain ⟨_, ⟨x0, x1, x2, x3, x4, x5, x6, x7⟩, x8, x9, x10⟩ := HX3.out
  clear hB3 HX2 HB2 hqe
  by_cases e1 : nm.toList.isEmpty = true
  · by_cases e2 : wh.toList.isEmpty = true
    · go_wp2_with fail
      refine (hqb.out _ HB3.out).mono ?_
      rintro e w4 ⟨rfl, hB4⟩
      have HB4 : Hid (Below w.heap.size w w4) := HB3.out.trans (hB4.mono HB3.out.size)
      clear x0 x1 x2 x3 x4 x5 x6 x7 x8 x9 x10
      obtain ⟨_, ⟨x0, x1, x2, x3, x4, x5, x6, x7⟩, x8, x9, x10⟩ := HX3.out.later hB4
      clear hB4 HX3 HB3 hqb
      cases fb
      · go_wp2
        go_ret
        exact ⟨by simp [Pl.formBy], HB4.out⟩
      · by_cases hel : l.len = 0
        · have he0 : ((l.len : Int) == 0) = true := by simp [hel]
          go_wp2
          go_ret
          exact ⟨by simp [Pl.formBy, e1, e2, HOK.out, hel], HB4.out⟩
        · have he0 : ((l.len : Int) == 0) = false := by simp [hel]
          go_wp2_with fail
          refine (hql.out _ HB4.out).mono ?_
          rintro e w5 ⟨rfl, hB5⟩
          go_wp2
          go_ret
          exact ⟨by simp [Pl.formBy, e1, e2, HOK.out, hel], HB4.out.trans (hB5.mono HB4.out.size)⟩
    · have e2' : wh.toList.isEmpty = false := by simpa using e2
      clear e2
      go_wp2
      go_ret
      exact ⟨by simp [Pl.formBy, e1, e2'], HB3.out⟩
  · have e1' : nm.toList.isEmpty = false := by simpa using e1
    clear e1
    go_wp2
    go_ret
    exact ⟨by simp [Pl.formBy, e1'], HB3.out⟩
set_option maxHeartbeats 6400000 in
set_option maxRecDepth 100000 in
theorem l3Form_ok4 (nm wh : ByteArray) (xk xvk xvn : Int) (xvt xnm : ByteArray) (ek : Fo) (b l : Ps) (d : Nat) (hd : 1 ≤ d) (hd4 : d ≤ 4) (hkb : FmP 41 b (d - 1)) (hkl : FmP 41 l (d - 1)) (he1 : ek.len ≤ 1048576) (he2 : ek.Sm) (hb1 : b.len ≤ 1048576) (hb2 : b.Sm) (hl1 : l.len ≤ 1048576) (hl2 : l.Sm)
    (hw1 : nm.size ≤ maxLen) (hw2 : wh.size ≤ maxLen) (hw3 : xvt.size ≤ maxLen) (hw4 : xnm.size ≤ maxLen) (hw5 : ek.Wf) (hwb : b.Wf) (hwl : l.Wf) (ve vb vl : Value) (w : World) (hre : RowAt 0 w ek ve) (hrb : PRow 0 w b vb) (hrl : PRow 0 w l vl) (hok : Pl.okN ⟨xk, xvk, xvn, xvt, xnm⟩ ek 5 = true) :
    Calls Try.prog 63 #[.agg #[.int .i64 4, .string nm, .string wh, .int .i64 xk, .int .i64 xvk, .int .i64 xvn, .string xvt, .string xnm, ve, vb, vl], .int .i64 d] w fun e w' => e = .returned (.bool (Pl.formBy ⟨4, nm, wh, ⟨xk, xvk, xvn, xvt, xnm⟩, ek⟩ b.len l.len (Pl.bodyB b (d - 1)) (Pl.bodyB l (d - 1)))) ∧ Below w.heap.size w w' := by
  have hq1 := hide (fun W => l1Name_any nm hw1 W)
  have hq2 := hide (fun W => l1Name_any wh hw2 W)
  have hqe : Hid (∀ W, Below w.heap.size w W → Calls Try.prog 8 #[ndV ⟨xk, xvk, xvn, xvt, xnm⟩ ve] W fun e w' => e = .returned (.bool true) ∧ Below W.heap.size W w') := by
    refine hide fun W hW => ?_
    have := specExprOk_any ⟨xk, xvk, xvn, xvt, xnm⟩ ek ve W hw3 hw4 hw5 he1 he2 (hre.later hW)
    rwa [hok] at this
  have HOK := hide hok
  have hx0 : (xk == 0) = false := okN_kind hok
  have hqb : Hid (∀ W, Below w.heap.size w W → Calls Try.prog 41 #[vb, .int .i64 ((d : Int) - 1)] W fun e w' => e = .returned (.bool (Pl.bodyB b (d - 1))) ∧ Below W.heap.size W w') := by
    refine hide fun W hW => ?_
    rw [show (d : Int) - 1 = ((d - 1 : Nat) : Int) by omega]
    exact hkb vb W hwb hb1 hb2 (hrb.later hW)
  have hql : Hid (∀ W, Below w.heap.size w W → Calls Try.prog 41 #[vl, .int .i64 ((d : Int) - 1)] W fun e w' => e = .returned (.bool (Pl.bodyB l (d - 1))) ∧ Below W.heap.size W w') := by
    refine hide fun W hW => ?_
    rw [show (d : Int) - 1 = ((d - 1 : Nat) : Int) by omega]
    exact hkl vl W hwl hl1 hl2 (hrl.later hW)
  clear hkb hkl
  clear he2 hb2 hl2 hwb hwl hw5 hw1 hw2 hw3 hw4 hok
  generalize Pl.bodyB b (d - 1) = fb at hqb ⊢
  generalize Pl.bodyB l (d - 1) = fe at hql ⊢
  obtain ⟨ade, cape, rfl, _, _, _⟩ := hre
  obtain ⟨adb, capb, rfl, _, _, _⟩ := hrb
  obtain ⟨adl, capl, rfl, _, _, _⟩ := hrl
  have HX := hide (Box11.mk (sn := ⟨4, nm, wh, ⟨xk, xvk, xvn, xvt, xnm⟩, ek⟩) (ve := .slice ade ek.len cape) (vb := .slice adb b.len capb) (vl := .slice adl l.len capl) (T := 81) w)
  have HA : Hid (Below w.heap.size w (w.alloc (.cells #[.int .i64 4, .string nm, .string wh, .int .i64 xk, .int .i64 xvk, .int .i64 xvn, .string xvt, .string xnm, .slice ade ek.len cape, .slice adb b.len capb, .slice adl l.len capl] 81))) := (Below.refl _ _).alloc (Nat.le_refl _) _
  go_enter Try.func63, Try.ntmps63
  go_wp2_with fail
  refine (hq1.out _).mono ?_
  rintro e w1 ⟨rfl, hB1⟩
  have HX1 := hide (HX.out.later hB1)
  have HB1 : Hid (Below w.heap.size w w1) := HA.out.trans (hB1.mono (by simp))
  clear HX hB1 HA hq1
  obtain ⟨_, ⟨x0, x1, x2, x3, x4, x5, x6, x7⟩, x8, x9, x10⟩ := HX1.out
  go_wp2_with fail
  refine (hq2.out _).mono ?_
  rintro e w2 ⟨rfl, hB2⟩
  have HX2 := hide (HX1.out.later hB2)
  have HB2 : Hid (Below w.heap.size w w2) := HB1.out.trans (hB2.mono HB1.out.size)
  clear x0 x1 x2 x3 x4 x5 x6 x7 x8 x9 x10 HX1 hB2 HB1 hq2
  obtain ⟨_, ⟨x0, x1, x2, x3, x4, x5, x6, x7⟩, x8, x9, x10⟩ := HX2.out
  go_wp2_with fail
  refine (hqe.out _ HB2.out).mono ?_
  rintro e w3 ⟨rfl, hB3⟩
  have HB3 : Hid (Below w.heap.size w w3) := HB2.out.trans (hB3.mono HB2.out.size)
  have HX3 := hide (HX2.out.later hB3)
  clear x0 x1 x2 x3 x4 x5 x6 x7 x8 x9 x10
  obtain ⟨_, ⟨x0, x1, x2, x3, x4, x5, x6, x7⟩, x8, x9, x10⟩ := HX3.out
  clear hB3 HX2 HB2 hqe
  by_cases e1 : nm.toList.isEmpty = true
  · by_cases e2 : wh.toList.isEmpty = true
    · go_wp2_with fail
      refine (hqb.out _ HB3.out).mono ?_
      rintro e w4 ⟨rfl, hB4⟩
      have HB4 : Hid (Below w.heap.size w w4) := HB3.out.trans (hB4.mono HB3.out.size)
      clear x0 x1 x2 x3 x4 x5 x6 x7 x8 x9 x10
      obtain ⟨_, ⟨x0, x1, x2, x3, x4, x5, x6, x7⟩, x8, x9, x10⟩ := HX3.out.later hB4
      clear hB4 HX3 HB3 hqb
      cases fb
      · go_wp2
        go_ret
        exact ⟨by simp [Pl.formBy], HB4.out⟩
      · by_cases hel : l.len = 0
        · have he0 : ((l.len : Int) == 0) = true := by simp [hel]
          go_wp2
          go_ret
          exact ⟨by simp [Pl.formBy, e1, e2, HOK.out, hel], HB4.out⟩
        · have he0 : ((l.len : Int) == 0) = false := by simp [hel]
          go_wp2
          go_ret
          exact ⟨by simp [Pl.formBy, e1, e2, HOK.out, hel], HB4.out⟩
    · have e2' : wh.toList.isEmpty = false := by simpa using e2
      clear e2
      go_wp2
      go_ret
      exact ⟨by simp [Pl.formBy, e1, e2'], HB3.out⟩
  · have e1' : nm.toList.isEmpty = false := by simpa using e1
    clear e1
    go_wp2
    go_ret
    exact ⟨by simp [Pl.formBy, e1'], HB3.out⟩
end Go.Proofs.Ytckdpdlkjgjadaa
