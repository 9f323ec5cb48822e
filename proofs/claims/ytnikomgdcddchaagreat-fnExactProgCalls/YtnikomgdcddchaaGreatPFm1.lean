/- Whether steps have their form, as the specification has it: an expression that is not ok. -/
import Derived.Test.YtnikomgdcddchaaGreatPFmD
namespace Go.Proofs.YtnikomgdcddchaaGreat
open Go.RowKit
set_option linter.unusedVariables false

set_option maxHeartbeats 6400000 in
set_option maxRecDepth 100000 in
theorem l3Form_bad (k : Int) (nm wh : ByteArray) (xk xvk xvn : Int) (xvt xnm : ByteArray) (ek : Fo) (b l : Ps) (d : Nat) (hd : 1 ≤ d) (hd4 : d ≤ 4) (he1 : ek.len ≤ 1048576) (he2 : ek.Sm) (hb1 : b.len ≤ 1048576) (hl1 : l.len ≤ 1048576)
    (hw1 : nm.size ≤ maxLen) (hw2 : wh.size ≤ maxLen) (hw3 : xvt.size ≤ maxLen) (hw4 : xnm.size ≤ maxLen) (hw5 : ek.Wf) (ve vb vl : Value) (w : World) (hre : RowAt 0 w ek ve) (hrb : PRow 0 w b vb) (hrl : PRow 0 w l vl) (hok : Pl.okN ⟨xk, xvk, xvn, xvt, xnm⟩ ek 5 = false) (k7 : k ≠ 7) (k9 : k ≠ 9) :
    Calls Tryz.prog 58 #[.agg #[.int .i64 k, .string nm, .string wh, .int .i64 xk, .int .i64 xvk, .int .i64 xvn, .string xvt, .string xnm, ve, vb, vl], .int .i64 d] w fun e w' => e = .returned (.bool false) ∧ Below w.heap.size w w' := by
  have hq1 := hide (fun W => l1Name_any nm hw1 W)
  have hq2 := hide (fun W => l1Name_any wh hw2 W)
  have hqe : Hid (∀ W, Below w.heap.size w W → Calls Tryz.prog 81 #[ndV ⟨xk, xvk, xvn, xvt, xnm⟩ ve] W fun e w' => e = .returned (.bool false) ∧ Below W.heap.size W w') := by
    refine hide fun W hW => ?_
    have := specExprOk_any ⟨xk, xvk, xvn, xvt, xnm⟩ ek ve W hw3 hw4 hw5 he1 he2 (hre.later hW)
    rwa [hok] at this
  have kk7 : (k == 7) = false := beq_eq_false_iff_ne.2 k7
  have kk9 : (k == 9) = false := beq_eq_false_iff_ne.2 k9
  clear he2 hw5 hw1 hw2 hw3 hw4 hok k7 k9
  obtain ⟨ade, cape, rfl, _, _, _⟩ := hre
  obtain ⟨adb, capb, rfl, _, _, _⟩ := hrb
  obtain ⟨adl, capl, rfl, _, _, _⟩ := hrl
  have HX := hide (Box11.mk (sn := ⟨k, nm, wh, ⟨xk, xvk, xvn, xvt, xnm⟩, ek⟩) (ve := .slice ade ek.len cape) (vb := .slice adb b.len capb) (vl := .slice adl l.len capl) (T := 47) w)
  generalize ek.len = el at *
  generalize b.len = bl at *
  generalize l.len = ll at *
  have HA : Hid (Below w.heap.size w (w.alloc (.cells #[.int .i64 k, .string nm, .string wh, .int .i64 xk, .int .i64 xvk, .int .i64 xvn, .string xvt, .string xnm, .slice ade el cape, .slice adb bl capb, .slice adl ll capl] 47))) := (Below.refl _ _).alloc (Nat.le_refl _) _
  go_enter Tryz.func58, Tryz.ntmps58
  go_wp2_with fail
  refine (hq1.out _).mono ?_
  rintro e w1 ⟨rfl, hB1⟩
  have HX1 := hide (HX.out.later hB1)
  have HB1 : Hid (Below w.heap.size w w1) := HA.out.trans (hB1.mono (by simp))
  clear HX hB1 HA hq1
  obtain ⟨_, ⟨x0, x1, x2, x3, x4, x5, x6, x7⟩, x8, x9, x10⟩ := HX1.out
  go_wp2_with fail
  refine (hq2.out _).mono ?_
  rintro e w2 ⟨rfl, hB2⟩
  have HX2 := hide (HX1.out.later hB2)
  have HB2 : Hid (Below w.heap.size w w2) := HB1.out.trans (hB2.mono HB1.out.size)
  clear x0 x1 x2 x3 x4 x5 x6 x7 x8 x9 x10 HX1 hB2 HB1 hq2
  obtain ⟨_, ⟨x0, x1, x2, x3, x4, x5, x6, x7⟩, x8, x9, x10⟩ := HX2.out
  go_wp2_with fail
  all_goals
    subst_vars
    refine (hqe.out _ HB2.out).mono ?_
    rintro e w3 ⟨rfl, hB3⟩
    have HB3 : Hid (Below w.heap.size w w3) := HB2.out.trans (hB3.mono HB2.out.size)
    obtain ⟨_, ⟨x0, x1, x2, x3, x4, x5, x6, x7⟩, x8, x9, x10⟩ := HX2.out.later hB3
    clear hB3 HX2 HB2 hqe
    go_wp2
    all_goals
      go_ret
      exact ⟨rfl, HB3.out⟩
end Go.Proofs.YtnikomgdcddchaaGreat
