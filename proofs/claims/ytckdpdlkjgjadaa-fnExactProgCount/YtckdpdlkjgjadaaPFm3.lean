/- Whether steps have their form, as the specification has it: kinds without an expression. -/
import Derived.Test.YtckdpdlkjgjadaaPFmD
namespace Go.Proofs.Ytckdpdlkjgjadaa
open Go.RowKit
set_option linter.unusedVariables false

set_option maxHeartbeats 6400000 in
set_option maxRecDepth 100000 in
theorem l3Form_no7 (nm wh : ByteArray) (xk xvk xvn : Int) (xvt xnm : ByteArray) (ek : Fo) (b l : Ps) (d : Nat) (hd : 1 ≤ d) (hd4 : d ≤ 4) (he1 : ek.len ≤ 1048576) (he2 : ek.Sm) (hb1 : b.len ≤ 1048576) (hb2 : b.Sm) (hl1 : l.len ≤ 1048576) (hl2 : l.Sm)
    (hw1 : nm.size ≤ maxLen) (hw2 : wh.size ≤ maxLen) (hw3 : xvt.size ≤ maxLen) (hw4 : xnm.size ≤ maxLen) (hw5 : ek.Wf) (hwb : b.Wf) (hwl : l.Wf) (ve vb vl : Value) (w : World) (hre : RowAt 0 w ek ve) (hrb : PRow 0 w b vb) (hrl : PRow 0 w l vl) (hok : Pl.okN ⟨xk, xvk, xvn, xvt, xnm⟩ ek 5 = false) :
    Calls Try.prog 63 #[.agg #[.int .i64 7, .string nm, .string wh, .int .i64 xk, .int .i64 xvk, .int .i64 xvn, .string xvt, .string xnm, ve, vb, vl], .int .i64 d] w fun e w' => e = .returned (.bool (Pl.formBy ⟨7, nm, wh, ⟨xk, xvk, xvn, xvt, xnm⟩, ek⟩ b.len l.len (Pl.bodyB b (d - 1)) (Pl.bodyB l (d - 1)))) ∧ Below w.heap.size w w' := by
  have hq1 := hide (fun W => l1Name_any nm hw1 W)
  have hq2 := hide (fun W => l1Name_any wh hw2 W)
  have hqe : Hid (∀ W, Below w.heap.size w W → Calls Try.prog 8 #[ndV ⟨xk, xvk, xvn, xvt, xnm⟩ ve] W fun e w' => e = .returned (.bool false) ∧ Below W.heap.size W w') := by
    refine hide fun W hW => ?_
    have := specExprOk_any ⟨xk, xvk, xvn, xvt, xnm⟩ ek ve W hw3 hw4 hw5 he1 he2 (hre.later hW)
    rwa [hok] at this
  clear he2 hb2 hl2 hwb hwl hw5 hw1 hw2 hw3 hw4 hok
  generalize Pl.bodyB b (d - 1) = fb
  generalize Pl.bodyB l (d - 1) = fe
  have HN : Hid (∀ xk xvk xvn xvt xnm, Pl.noneB ⟨xk, xvk, xvn, xvt, xnm⟩ ek = ((xk == 0) && (xnm.toList.isEmpty && ((ek.len == 0) && ((xvk == 0) && ((xvn == 0) && xvt.toList.isEmpty)))))) := fun _ _ _ _ _ => rfl
  obtain ⟨ade, cape, rfl, _, _, _⟩ := hre
  obtain ⟨adb, capb, rfl, _, _, _⟩ := hrb
  obtain ⟨adl, capl, rfl, _, _, _⟩ := hrl
  generalize ek.len = el at *
  have HX := hide (Box11.mk (sn := ⟨7, nm, wh, ⟨xk, xvk, xvn, xvt, xnm⟩, ek⟩) (ve := .slice ade el cape) (vb := .slice adb b.len capb) (vl := .slice adl l.len capl) (T := 81) w)
  have HA : Hid (Below w.heap.size w (w.alloc (.cells #[.int .i64 7, .string nm, .string wh, .int .i64 xk, .int .i64 xvk, .int .i64 xvn, .string xvt, .string xnm, .slice ade el cape, .slice adb b.len capb, .slice adl l.len capl] 81))) := (Below.refl _ _).alloc (Nat.le_refl _) _
  go_enter Try.func63, Try.ntmps63
  go_wp2_with fail
  refine (hq1.out _).mono ?_
  rintro e w1 ⟨rfl, hB1⟩
  have HX1 := hide (HX.out.later hB1)
  have HB1 : Hid (Below w.heap.size w w1) := HA.out.trans (hB1.mono (by simp))
  clear HX hB1 HA hq1
  obtain ⟨_, ⟨x0, x1, x2, x3, x4, x5, x6, x7⟩, x8, x9, x10⟩ := HX1.out
  go_wp2_with fail
  refine (hq2.out _).mono ?_
  rintro e w2 ⟨rfl, hB2⟩
  have HX2 := hide (HX1.out.later hB2)
  have HB2 : Hid (Below w.heap.size w w2) := HB1.out.trans (hB2.mono HB1.out.size)
  clear x0 x1 x2 x3 x4 x5 x6 x7 x8 x9 x10 HX1 hB2 HB1 hq2
  obtain ⟨_, ⟨x0, x1, x2, x3, x4, x5, x6, x7⟩, x8, x9, x10⟩ := HX2.out
  go_wp2_with fail
  all_goals
    subst_vars
    refine (hqe.out _ HB2.out).mono ?_
    rintro e w3 ⟨rfl, hB3⟩
    have HB3 : Hid (Below w.heap.size w w3) := HB2.out.trans (hB3.mono HB2.out.size)
    clear x0 x1 x2 x3 x4 x5 x6 x7 x8 x9 x10
    obtain ⟨_, ⟨x0, x1, x2, x3, x4, x5, x6, x7⟩, x8, x9, x10⟩ := HX2.out.later hB3
    clear hB3 HX2 HB2 hqe
    go_wp2
    all_goals
      go_ret
      refine ⟨?_, HB3.out⟩
      clear x0 x1 x2 x3 x4 x5 x6 x7 x8 x9 x10 HB3
      simp_all [Pl.formBy, HN.out]
set_option maxHeartbeats 6400000 in
set_option maxRecDepth 100000 in
theorem l3Form_no9 (nm wh : ByteArray) (xk xvk xvn : Int) (xvt xnm : ByteArray) (ek : Fo) (b l : Ps) (d : Nat) (hd : 1 ≤ d) (hd4 : d ≤ 4) (he1 : ek.len ≤ 1048576) (he2 : ek.Sm) (hb1 : b.len ≤ 1048576) (hb2 : b.Sm) (hl1 : l.len ≤ 1048576) (hl2 : l.Sm)
    (hw1 : nm.size ≤ maxLen) (hw2 : wh.size ≤ maxLen) (hw3 : xvt.size ≤ maxLen) (hw4 : xnm.size ≤ maxLen) (hw5 : ek.Wf) (hwb : b.Wf) (hwl : l.Wf) (ve vb vl : Value) (w : World) (hre : RowAt 0 w ek ve) (hrb : PRow 0 w b vb) (hrl : PRow 0 w l vl) (hok : Pl.okN ⟨xk, xvk, xvn, xvt, xnm⟩ ek 5 = false) :
    Calls Try.prog 63 #[.agg #[.int .i64 9, .string nm, .string wh, .int .i64 xk, .int .i64 xvk, .int .i64 xvn, .string xvt, .string xnm, ve, vb, vl], .int .i64 d] w fun e w' => e = .returned (.bool (Pl.formBy ⟨9, nm, wh, ⟨xk, xvk, xvn, xvt, xnm⟩, ek⟩ b.len l.len (Pl.bodyB b (d - 1)) (Pl.bodyB l (d - 1)))) ∧ Below w.heap.size w w' := by
  have hq1 := hide (fun W => l1Name_any nm hw1 W)
  have hq2 := hide (fun W => l1Name_any wh hw2 W)
  have hqe : Hid (∀ W, Below w.heap.size w W → Calls Try.prog 8 #[ndV ⟨xk, xvk, xvn, xvt, xnm⟩ ve] W fun e w' => e = .returned (.bool false) ∧ Below W.heap.size W w') := by
    refine hide fun W hW => ?_
    have := specExprOk_any ⟨xk, xvk, xvn, xvt, xnm⟩ ek ve W hw3 hw4 hw5 he1 he2 (hre.later hW)
    rwa [hok] at this
  clear he2 hb2 hl2 hwb hwl hw5 hw1 hw2 hw3 hw4 hok
  generalize Pl.bodyB b (d - 1) = fb
  generalize Pl.bodyB l (d - 1) = fe
  have HN : Hid (∀ xk xvk xvn xvt xnm, Pl.noneB ⟨xk, xvk, xvn, xvt, xnm⟩ ek = ((xk == 0) && (xnm.toList.isEmpty && ((ek.len == 0) && ((xvk == 0) && ((xvn == 0) && xvt.toList.isEmpty)))))) := fun _ _ _ _ _ => rfl
  obtain ⟨ade, cape, rfl, _, _, _⟩ := hre
  obtain ⟨adb, capb, rfl, _, _, _⟩ := hrb
  obtain ⟨adl, capl, rfl, _, _, _⟩ := hrl
  generalize ek.len = el at *
  have HX := hide (Box11.mk (sn := ⟨9, nm, wh, ⟨xk, xvk, xvn, xvt, xnm⟩, ek⟩) (ve := .slice ade el cape) (vb := .slice adb b.len capb) (vl := .slice adl l.len capl) (T := 81) w)
  have HA : Hid (Below w.heap.size w (w.alloc (.cells #[.int .i64 9, .string nm, .string wh, .int .i64 xk, .int .i64 xvk, .int .i64 xvn, .string xvt, .string xnm, .slice ade el cape, .slice adb b.len capb, .slice adl l.len capl] 81))) := (Below.refl _ _).alloc (Nat.le_refl _) _
  go_enter Try.func63, Try.ntmps63
  go_wp2_with fail
  refine (hq1.out _).mono ?_
  rintro e w1 ⟨rfl, hB1⟩
  have HX1 := hide (HX.out.later hB1)
  have HB1 : Hid (Below w.heap.size w w1) := HA.out.trans (hB1.mono (by simp))
  clear HX hB1 HA hq1
  obtain ⟨_, ⟨x0, x1, x2, x3, x4, x5, x6, x7⟩, x8, x9, x10⟩ := HX1.out
  go_wp2_with fail
  refine (hq2.out _).mono ?_
  rintro e w2 ⟨rfl, hB2⟩
  have HX2 := hide (HX1.out.later hB2)
  have HB2 : Hid (Below w.heap.size w w2) := HB1.out.trans (hB2.mono HB1.out.size)
  clear x0 x1 x2 x3 x4 x5 x6 x7 x8 x9 x10 HX1 hB2 HB1 hq2
  obtain ⟨_, ⟨x0, x1, x2, x3, x4, x5, x6, x7⟩, x8, x9, x10⟩ := HX2.out
  go_wp2_with fail
  all_goals
    subst_vars
    refine (hqe.out _ HB2.out).mono ?_
    rintro e w3 ⟨rfl, hB3⟩
    have HB3 : Hid (Below w.heap.size w w3) := HB2.out.trans (hB3.mono HB2.out.size)
    clear x0 x1 x2 x3 x4 x5 x6 x7 x8 x9 x10
    obtain ⟨_, ⟨x0, x1, x2, x3, x4, x5, x6, x7⟩, x8, x9, x10⟩ := HX2.out.later hB3
    clear hB3 HX2 HB2 hqe
    go_wp2
    all_goals
      go_ret
      refine ⟨?_, HB3.out⟩
      clear x0 x1 x2 x3 x4 x5 x6 x7 x8 x9 x10 HB3
      simp_all [Pl.formBy, HN.out]
end Go.Proofs.Ytckdpdlkjgjadaa
