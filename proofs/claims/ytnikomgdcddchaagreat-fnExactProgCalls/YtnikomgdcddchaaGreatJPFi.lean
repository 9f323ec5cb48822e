/- Joined: PFi1 PFi2 PFi3. -/
import Derived.Test.YtnikomgdcddchaaGreatPFmD
import Derived.Test.YtnikomgdcddchaaGreatJOk2
/- Parts of steps, as the program has them. -/
namespace Go.Proofs.YtnikomgdcddchaaGreat
open Go.RowKit
set_option linter.unusedVariables false
namespace Pl
def hasN (k : Int) : Bool := (k == 1) || ((k == 2) || ((k == 5) || ((k == 6) || ((k == 10) || ((k == 7) || (k == 9))))))
def hasW (k : Int) : Bool := (k == 5) || ((k == 6) || ((k == 10) || ((k == 7) || (k == 9))))
def hasE (k : Int) : Bool := (k == 1) || ((k == 2) || ((k == 3) || ((k == 4) || ((k == 5) || ((k == 6) || ((k == 10) || ((k == 8) || ((k == 11) || ((k == 12) || (k == 13))))))))))
def hasB (k : Int) : Bool := (k == 3) || (k == 4)
def hasL (k : Int) : Bool := k == 3
end Pl

set_option maxHeartbeats 1600000 in
theorem partsOf_any (k : Int) (w : World) :
    Calls Tryz.prog 92 #[.int .i64 k] w fun e w' => e = .returned (.agg #[.bool (Pl.hasN k), .bool (Pl.hasW k), .bool (Pl.hasE k), .bool (Pl.hasB k), .bool (Pl.hasL k)]) ∧ Below w.heap.size w w' := by
  go_enter Tryz.func92, Tryz.ntmps92
  go_wp2
  all_goals
    refine bodyPost_ret (v := .agg #[.bool (Pl.hasN k), .bool (Pl.hasW k), .bool (Pl.hasE k), .bool (Pl.hasB k), .bool (Pl.hasL k)]) (by simp_all [results, Tryz.results92, go_sem, Pl.hasN, Pl.hasW, Pl.hasE, Pl.hasB, Pl.hasL]) rfl ?_
    refine ⟨rfl, ?_⟩
    first
      | exact Below.refl _ _
      | exact (Below.refl _ _).alloc (Nat.le_refl _) _
      | exact ((Below.refl _ _).alloc (Nat.le_refl _) _).alloc (by simp) _

set_option maxHeartbeats 800000 in
theorem nameFits_any (nm : ByteArray) (hn : nm.size ≤ maxLen) (has : Bool) (w : World) :
    Calls Tryz.prog 93 #[.string nm, .bool has] w fun e w' => e = .returned (.bool (if has = true then Pl.nameB nm else nm.toList.isEmpty)) ∧ Below w.heap.size w w' := by
  have hq := hide (implNameOk_any nm hn)
  cases has
  · go_enter Tryz.func93, Tryz.ntmps93
    go_wp2
    go_ret
    exact ⟨by simp, Below.refl _ _⟩
  · go_enter Tryz.func93, Tryz.ntmps93
    go_wp2_with fail
    refine (hq.out _).mono ?_
    rintro e w1 ⟨rfl, rfl⟩
    go_wp2
    go_ret
    exact ⟨by simp, Below.refl _ _⟩

set_option maxHeartbeats 1600000 in
theorem exprPartFits_any (xk xvk xvn : Int) (xvt xnm : ByteArray) (ek : Fo) (ve : Value) (w : World) (has : Bool) (he1 : ek.len ≤ 1048576) (he2 : ek.Sm) (hw3 : xvt.size ≤ maxLen) (hw4 : xnm.size ≤ maxLen) (hw5 : ek.Wf) (hre : RowAt 0 w ek ve) :
    Calls Tryz.prog 94 #[ndV ⟨xk, xvk, xvn, xvt, xnm⟩ ve, .bool has] w fun e w' => e = .returned (.bool (if has = true then Pl.okN ⟨xk, xvk, xvn, xvt, xnm⟩ ek 5 else Pl.noneB ⟨xk, xvk, xvn, xvt, xnm⟩ ek)) ∧ Below w.heap.size w w' := by
  have hqe : Hid (∀ W, Below w.heap.size w W → Calls Tryz.prog 111 #[ndV ⟨xk, xvk, xvn, xvt, xnm⟩ ve] W fun e w' => e = .returned (.bool (Pl.okN ⟨xk, xvk, xvn, xvt, xnm⟩ ek 5)) ∧ Below W.heap.size W w') := fun W hW => implExprOk_any ⟨xk, xvk, xvn, xvt, xnm⟩ ek ve W hw3 hw4 hw5 he1 he2 (hre.later hW)
  have HN : Hid (∀ xk xvk xvn xvt xnm, Pl.noneB ⟨xk, xvk, xvn, xvt, xnm⟩ ek = ((xk == 0) && (xnm.toList.isEmpty && ((ek.len == 0) && ((xvk == 0) && ((xvn == 0) && xvt.toList.isEmpty)))))) := fun _ _ _ _ _ => rfl
  obtain ⟨ade, cape, rfl, _, _, _⟩ := hre
  clear he2 hw3 hw4 hw5
  cases has
  · clear hqe
    generalize ek.len = el at *
    go_enter Tryz.func94, Tryz.ntmps94
    go_wp2
    all_goals
      go_ret
      refine ⟨?_, (Below.refl _ _).alloc (Nat.le_refl _) _⟩
      first
        | (simp_all [HN.out]; done)
        | (simp_all [HN.out]; apply Bool.eq_iff_iff.2; simp)
  · go_enter Tryz.func94, Tryz.ntmps94
    go_wp2_with fail
    refine (hqe.out _ ((Below.refl _ _).alloc (Nat.le_refl _) _)).mono ?_
    rintro e w1 ⟨rfl, hB1⟩
    go_wp2
    go_ret
    exact ⟨by simp, ((Below.refl _ _).alloc (Nat.le_refl _) _).trans (hB1.mono (by simp))⟩
end Go.Proofs.YtnikomgdcddchaaGreat

/- Whether a step has its form, as the program has it. -/
namespace Go.Proofs.YtnikomgdcddchaaGreat
open Go.RowKit
set_option linter.unusedVariables false

/-- which parts a kind has, as they lie in a box -/
def HasAt (g : Nat) (n w' e b l : Bool) (W : World) : Prop :=
  g < W.heap.size ∧ W.cell? ⟨g, 0, none⟩ = some (.bool n) ∧ W.cell? ⟨g, 1, none⟩ = some (.bool w') ∧ W.cell? ⟨g, 2, none⟩ = some (.bool e) ∧ W.cell? ⟨g, 3, none⟩ = some (.bool b) ∧ W.cell? ⟨g, 4, none⟩ = some (.bool l)
theorem HasAt.mk (n w' e b l : Bool) (T : TypeId) (w : World) : HasAt w.heap.size n w' e b l (w.alloc (.cells #[.bool n, .bool w', .bool e, .bool b, .bool l] T)) := by
  refine ⟨by simp, ?_, ?_, ?_, ?_, ?_⟩ <;> simp
theorem HasAt.later {g : Nat} {n w' e b l : Bool} {W W1 : World} (h : HasAt g n w' e b l W) (hB : Below W.heap.size W W1) : HasAt g n w' e b l W1 := by
  obtain ⟨hb, h0, h1, h2, h3, h4⟩ := h
  have C : ∀ o, W1.cell? ⟨g, o, none⟩ = W.cell? ⟨g, o, none⟩ := fun o => hB.cell (p := ⟨g, o, none⟩) hb
  exact ⟨by have := hB.size; omega, (C _).trans h0, (C _).trans h1, (C _).trans h2, (C _).trans h3, (C _).trans h4⟩
set_option maxHeartbeats 6400000 in
set_option maxRecDepth 100000 in
theorem stepFits_a (k : Int) (nm wh : ByteArray) (xk xvk xvn : Int) (xvt xnm : ByteArray) (ek : Fo) (b l : Ps) (d : Nat) (hd : 1 ≤ d) (hd4 : d ≤ 4) (hkb : FmP 44 b (d - 1)) (hkl : FmP 44 l (d - 1)) (he1 : ek.len ≤ 1048576) (he2 : ek.Sm) (hb1 : b.len ≤ 1048576) (hb2 : b.Sm) (hl1 : l.len ≤ 1048576) (hl2 : l.Sm)
    (hw1 : nm.size ≤ maxLen) (hw2 : wh.size ≤ maxLen) (hw3 : xvt.size ≤ maxLen) (hw4 : xnm.size ≤ maxLen) (hw5 : ek.Wf) (hwb : b.Wf) (hwl : l.Wf) (ve vb vl : Value) (w : World) (hre : RowAt 0 w ek ve) (hrb : PRow 0 w b vb) (hrl : PRow 0 w l vl) (hk : k = 1 ∨ k = 2) :
    Calls Tryz.prog 65 #[.agg #[.int .i64 k, .string nm, .string wh, .int .i64 xk, .int .i64 xvk, .int .i64 xvn, .string xvt, .string xnm, ve, vb, vl], .int .i64 d] w fun e w' => e = .returned (.bool (Pl.formBy ⟨k, nm, wh, ⟨xk, xvk, xvn, xvt, xnm⟩, ek⟩ b.len l.len (Pl.bodyB b (d - 1)) (Pl.bodyB l (d - 1)))) ∧ Below w.heap.size w w' := by
  have hp := hide (partsOf_any k)
  rw [show Pl.hasN k = true by rcases hk with rfl | rfl <;> rfl, show Pl.hasW k = false by rcases hk with rfl | rfl <;> rfl, show Pl.hasE k = true by rcases hk with rfl | rfl <;> rfl, show Pl.hasB k = false by rcases hk with rfl | rfl <;> rfl, show Pl.hasL k = false by rcases hk with rfl | rfl <;> rfl] at hp
  have HF : Hid (Pl.formBy ⟨k, nm, wh, ⟨xk, xvk, xvn, xvt, xnm⟩, ek⟩ b.len l.len (Pl.bodyB b (d - 1)) (Pl.bodyB l (d - 1)) = (Pl.nameB nm && (wh.toList.isEmpty && (Pl.okN ⟨xk, xvk, xvn, xvt, xnm⟩ ek 5 && ((b.len : Int) + (l.len : Int) == 0))))) := by
    rcases hk with rfl | rfl <;> rfl
  have hq1 : Hid (∀ W, Calls Tryz.prog 93 #[.string nm, .bool true] W fun e w' => e = .returned (.bool (Pl.nameB nm)) ∧ Below W.heap.size W w') := by
    refine hide fun W => ?_
    have := nameFits_any nm hw1 true W
    simpa using this
  have hq2 : Hid (∀ W, Calls Tryz.prog 93 #[.string wh, .bool false] W fun e w' => e = .returned (.bool (wh.toList.isEmpty)) ∧ Below W.heap.size W w') := by
    refine hide fun W => ?_
    have := nameFits_any wh hw2 false W
    simpa using this
  have hq3 : Hid (∀ W, Below w.heap.size w W → Calls Tryz.prog 94 #[ndV ⟨xk, xvk, xvn, xvt, xnm⟩ ve, .bool true] W fun e w' => e = .returned (.bool (Pl.okN ⟨xk, xvk, xvn, xvt, xnm⟩ ek 5)) ∧ Below W.heap.size W w') := by
    refine hide fun W hW => ?_
    have := exprPartFits_any xk xvk xvn xvt xnm ek ve W true he1 he2 hw3 hw4 hw5 (hre.later hW)
    simpa using this
  have hqb : Hid (∀ W, Below w.heap.size w W → Calls Tryz.prog 44 #[vb, .int .i64 ((d : Int) - 1)] W fun e w' => e = .returned (.bool (Pl.bodyB b (d - 1))) ∧ Below W.heap.size W w') := by
    refine hide fun W hW => ?_
    rw [show (d : Int) - 1 = ((d - 1 : Nat) : Int) by omega]
    exact hkb vb W hwb hb1 hb2 (hrb.later hW)
  have hql : Hid (∀ W, Below w.heap.size w W → Calls Tryz.prog 44 #[vl, .int .i64 ((d : Int) - 1)] W fun e w' => e = .returned (.bool (Pl.bodyB l (d - 1))) ∧ Below W.heap.size W w') := by
    refine hide fun W hW => ?_
    rw [show (d : Int) - 1 = ((d - 1 : Nat) : Int) by omega]
    exact hkl vl W hwl hl1 hl2 (hrl.later hW)
  have HBP : Hid (Pl.bodyB b (d - 1) = true → 0 < b.len) := by
    refine hide fun h => ?_
    simp only [Pl.bodyB, Bool.and_eq_true, decide_eq_true_eq] at h
    exact h.2.1.1
  rw [HF.out]
  clear HF hkb hkl he2 hb2 hl2 hwb hwl hw5 hw1 hw2 hw3 hw4 hk
  obtain ⟨ade, cape, rfl, _, _, _⟩ := hre
  obtain ⟨adb, capb, rfl, _, _, _⟩ := hrb
  obtain ⟨adl, capl, rfl, _, _, _⟩ := hrl
  have HX := hide (Box11.mk (sn := ⟨k, nm, wh, ⟨xk, xvk, xvn, xvt, xnm⟩, ek⟩) (ve := .slice ade ek.len cape) (vb := .slice adb b.len capb) (vl := .slice adl l.len capl) (T := 47) w)
  have HA : Hid (Below w.heap.size w (w.alloc (.cells #[.int .i64 k, .string nm, .string wh, .int .i64 xk, .int .i64 xvk, .int .i64 xvn, .string xvt, .string xnm, .slice ade ek.len cape, .slice adb b.len capb, .slice adl l.len capl] 47))) := (Below.refl _ _).alloc (Nat.le_refl _) _
  generalize Pl.nameB nm = r1 at hq1 ⊢
  generalize wh.toList.isEmpty = r2 at hq2 ⊢
  generalize Pl.okN ⟨xk, xvk, xvn, xvt, xnm⟩ ek 5 = r3 at hq3 ⊢
  generalize Pl.bodyB b (d - 1) = fb at hqb HBP ⊢
  generalize Pl.bodyB l (d - 1) = fe at hql ⊢
  go_enter Tryz.func65, Tryz.ntmps65
  go_wp2_with fail
  refine (hp.out _).mono ?_
  rintro e w1 ⟨rfl, hB1⟩
  have HX1 := hide (HX.out.later hB1)
  have HB1 : Hid (Below w.heap.size w w1) := HA.out.trans (hB1.mono (by simp))
  have hs1 := hide HX1.out.1
  have hA1 : Hid (Below w1.heap.size w1 (w1.alloc (.cells #[.bool true, .bool false, .bool true, .bool false, .bool false] 131))) := (Below.refl _ _).alloc (Nat.le_refl _) _
  have HH1 := hide (HasAt.mk true false true false false 131 w1)
  have HX1' := hide (HX1.out.later hA1.out)
  have HB1' : Hid (Below w.heap.size w (w1.alloc (.cells #[.bool true, .bool false, .bool true, .bool false, .bool false] 131))) := HB1.out.trans (hA1.out.mono HB1.out.size)
  clear HX hB1 HA hp
  obtain ⟨_, ⟨x0, x1, x2, x3, x4, x5, x6, x7⟩, x8, x9, x10⟩ := HX1.out
  go_wp2_with fail
  refine (hq1.out _).mono ?_
  rintro e w2 ⟨rfl, hB2⟩
  have HX2 := hide (HX1'.out.later hB2)
  have HB2 : Hid (Below w.heap.size w w2) := HB1'.out.trans (hB2.mono HB1'.out.size)
  have HH2 := hide (HH1.out.later hB2)
  obtain ⟨_, y0, y1, y2, y3, y4⟩ := HH2.out
  clear x0 x1 x2 x3 x4 x5 x6 x7 x8 x9 x10 HX1 hB2 HB1 hq1 HH1 HX1' HB1' hA1
  obtain ⟨_, ⟨x0, x1, x2, x3, x4, x5, x6, x7⟩, x8, x9, x10⟩ := HX2.out
  cases r1
  · go_wp2
    go_ret
    exact ⟨by simp, HB2.out⟩
  go_wp2_with fail
  refine (hq2.out _).mono ?_
  rintro e w3 ⟨rfl, hB3⟩
  have HX3 := hide (HX2.out.later hB3)
  have HB3 : Hid (Below w.heap.size w w3) := HB2.out.trans (hB3.mono HB2.out.size)
  have HH3 := hide (HH2.out.later hB3)
  clear y0 y1 y2 y3 y4
  obtain ⟨_, y0, y1, y2, y3, y4⟩ := HH3.out
  clear HH2 x0 x1 x2 x3 x4 x5 x6 x7 x8 x9 x10 HX2 hB3 HB2 hq2
  obtain ⟨_, ⟨x0, x1, x2, x3, x4, x5, x6, x7⟩, x8, x9, x10⟩ := HX3.out
  cases r2
  · go_wp2
    go_ret
    exact ⟨by simp, HB3.out⟩
  go_wp2_with fail
  refine (hq3.out _ HB3.out).mono ?_
  rintro e w4 ⟨rfl, hB4⟩
  have HX4 := hide (HX3.out.later hB4)
  have HB4 : Hid (Below w.heap.size w w4) := HB3.out.trans (hB4.mono HB3.out.size)
  have HH4 := hide (HH3.out.later hB4)
  clear y0 y1 y2 y3 y4
  obtain ⟨_, y0, y1, y2, y3, y4⟩ := HH4.out
  clear HH3 x0 x1 x2 x3 x4 x5 x6 x7 x8 x9 x10 HX3 hB4 HB3 hq3
  obtain ⟨_, ⟨x0, x1, x2, x3, x4, x5, x6, x7⟩, x8, x9, x10⟩ := HX4.out
  cases r3
  · go_wp2
    go_ret
    exact ⟨by simp, HB4.out⟩
  by_cases hb0 : b.len = 0
  · have hbi : ¬ (0 : Int) < (b.len : Int) := by omega
    by_cases hl0 : l.len = 0
    · have hli : ((l.len : Int) == 0) = true := by simp [hl0]
      have hsum : ((b.len : Int) + (l.len : Int) == 0) = true := by simp [hb0, hl0]
      have HSUM := hide hsum
      clear hsum hb0 hl0
      go_wp2
      go_ret
      exact ⟨by rw [HSUM.out]; rfl, HB4.out⟩
    · have hli : ((l.len : Int) == 0) = false := by simp [hl0]
      have hsum : ((b.len : Int) + (l.len : Int) == 0) = false := beq_eq_false_iff_ne.2 (by omega)
      have HSUM := hide hsum
      clear hsum hb0 hl0
      go_wp2
      go_ret
      exact ⟨by rw [HSUM.out]; rfl, HB4.out⟩
  · have hbi : (0 : Int) < (b.len : Int) := by omega
    have hsum : ((b.len : Int) + (l.len : Int) == 0) = false := beq_eq_false_iff_ne.2 (by omega)
    have HSUM := hide hsum
    clear hsum hb0
    go_wp2
    go_ret
    exact ⟨by rw [HSUM.out]; rfl, HB4.out⟩

set_option maxHeartbeats 6400000 in
set_option maxRecDepth 100000 in
theorem stepFits_b (k : Int) (nm wh : ByteArray) (xk xvk xvn : Int) (xvt xnm : ByteArray) (ek : Fo) (b l : Ps) (d : Nat) (hd : 1 ≤ d) (hd4 : d ≤ 4) (hkb : FmP 44 b (d - 1)) (hkl : FmP 44 l (d - 1)) (he1 : ek.len ≤ 1048576) (he2 : ek.Sm) (hb1 : b.len ≤ 1048576) (hb2 : b.Sm) (hl1 : l.len ≤ 1048576) (hl2 : l.Sm)
    (hw1 : nm.size ≤ maxLen) (hw2 : wh.size ≤ maxLen) (hw3 : xvt.size ≤ maxLen) (hw4 : xnm.size ≤ maxLen) (hw5 : ek.Wf) (hwb : b.Wf) (hwl : l.Wf) (ve vb vl : Value) (w : World) (hre : RowAt 0 w ek ve) (hrb : PRow 0 w b vb) (hrl : PRow 0 w l vl) (hk : k = 3) :
    Calls Tryz.prog 65 #[.agg #[.int .i64 k, .string nm, .string wh, .int .i64 xk, .int .i64 xvk, .int .i64 xvn, .string xvt, .string xnm, ve, vb, vl], .int .i64 d] w fun e w' => e = .returned (.bool (Pl.formBy ⟨k, nm, wh, ⟨xk, xvk, xvn, xvt, xnm⟩, ek⟩ b.len l.len (Pl.bodyB b (d - 1)) (Pl.bodyB l (d - 1)))) ∧ Below w.heap.size w w' := by
  have hp := hide (partsOf_any k)
  rw [show Pl.hasN k = false by rcases hk with rfl <;> rfl, show Pl.hasW k = false by rcases hk with rfl <;> rfl, show Pl.hasE k = true by rcases hk with rfl <;> rfl, show Pl.hasB k = true by rcases hk with rfl <;> rfl, show Pl.hasL k = true by rcases hk with rfl <;> rfl] at hp
  have HF : Hid (Pl.formBy ⟨k, nm, wh, ⟨xk, xvk, xvn, xvt, xnm⟩, ek⟩ b.len l.len (Pl.bodyB b (d - 1)) (Pl.bodyB l (d - 1)) = (nm.toList.isEmpty && (wh.toList.isEmpty && (Pl.okN ⟨xk, xvk, xvn, xvt, xnm⟩ ek 5 && (Pl.bodyB b (d - 1) && ((l.len == 0) || Pl.bodyB l (d - 1))))))) := by
    rcases hk with rfl <;> rfl
  have hq1 : Hid (∀ W, Calls Tryz.prog 93 #[.string nm, .bool false] W fun e w' => e = .returned (.bool (nm.toList.isEmpty)) ∧ Below W.heap.size W w') := by
    refine hide fun W => ?_
    have := nameFits_any nm hw1 false W
    simpa using this
  have hq2 : Hid (∀ W, Calls Tryz.prog 93 #[.string wh, .bool false] W fun e w' => e = .returned (.bool (wh.toList.isEmpty)) ∧ Below W.heap.size W w') := by
    refine hide fun W => ?_
    have := nameFits_any wh hw2 false W
    simpa using this
  have hq3 : Hid (∀ W, Below w.heap.size w W → Calls Tryz.prog 94 #[ndV ⟨xk, xvk, xvn, xvt, xnm⟩ ve, .bool true] W fun e w' => e = .returned (.bool (Pl.okN ⟨xk, xvk, xvn, xvt, xnm⟩ ek 5)) ∧ Below W.heap.size W w') := by
    refine hide fun W hW => ?_
    have := exprPartFits_any xk xvk xvn xvt xnm ek ve W true he1 he2 hw3 hw4 hw5 (hre.later hW)
    simpa using this
  have hqb : Hid (∀ W, Below w.heap.size w W → Calls Tryz.prog 44 #[vb, .int .i64 ((d : Int) - 1)] W fun e w' => e = .returned (.bool (Pl.bodyB b (d - 1))) ∧ Below W.heap.size W w') := by
    refine hide fun W hW => ?_
    rw [show (d : Int) - 1 = ((d - 1 : Nat) : Int) by omega]
    exact hkb vb W hwb hb1 hb2 (hrb.later hW)
  have hql : Hid (∀ W, Below w.heap.size w W → Calls Tryz.prog 44 #[vl, .int .i64 ((d : Int) - 1)] W fun e w' => e = .returned (.bool (Pl.bodyB l (d - 1))) ∧ Below W.heap.size W w') := by
    refine hide fun W hW => ?_
    rw [show (d : Int) - 1 = ((d - 1 : Nat) : Int) by omega]
    exact hkl vl W hwl hl1 hl2 (hrl.later hW)
  have HBP : Hid (Pl.bodyB b (d - 1) = true → 0 < b.len) := by
    refine hide fun h => ?_
    simp only [Pl.bodyB, Bool.and_eq_true, decide_eq_true_eq] at h
    exact h.2.1.1
  rw [HF.out]
  clear HF hkb hkl he2 hb2 hl2 hwb hwl hw5 hw1 hw2 hw3 hw4 hk
  obtain ⟨ade, cape, rfl, _, _, _⟩ := hre
  obtain ⟨adb, capb, rfl, _, _, _⟩ := hrb
  obtain ⟨adl, capl, rfl, _, _, _⟩ := hrl
  have HX := hide (Box11.mk (sn := ⟨k, nm, wh, ⟨xk, xvk, xvn, xvt, xnm⟩, ek⟩) (ve := .slice ade ek.len cape) (vb := .slice adb b.len capb) (vl := .slice adl l.len capl) (T := 47) w)
  have HA : Hid (Below w.heap.size w (w.alloc (.cells #[.int .i64 k, .string nm, .string wh, .int .i64 xk, .int .i64 xvk, .int .i64 xvn, .string xvt, .string xnm, .slice ade ek.len cape, .slice adb b.len capb, .slice adl l.len capl] 47))) := (Below.refl _ _).alloc (Nat.le_refl _) _
  generalize nm.toList.isEmpty = r1 at hq1 ⊢
  generalize wh.toList.isEmpty = r2 at hq2 ⊢
  generalize Pl.okN ⟨xk, xvk, xvn, xvt, xnm⟩ ek 5 = r3 at hq3 ⊢
  generalize Pl.bodyB b (d - 1) = fb at hqb HBP ⊢
  generalize Pl.bodyB l (d - 1) = fe at hql ⊢
  go_enter Tryz.func65, Tryz.ntmps65
  go_wp2_with fail
  refine (hp.out _).mono ?_
  rintro e w1 ⟨rfl, hB1⟩
  have HX1 := hide (HX.out.later hB1)
  have HB1 : Hid (Below w.heap.size w w1) := HA.out.trans (hB1.mono (by simp))
  have hs1 := hide HX1.out.1
  have hA1 : Hid (Below w1.heap.size w1 (w1.alloc (.cells #[.bool false, .bool false, .bool true, .bool true, .bool true] 131))) := (Below.refl _ _).alloc (Nat.le_refl _) _
  have HH1 := hide (HasAt.mk false false true true true 131 w1)
  have HX1' := hide (HX1.out.later hA1.out)
  have HB1' : Hid (Below w.heap.size w (w1.alloc (.cells #[.bool false, .bool false, .bool true, .bool true, .bool true] 131))) := HB1.out.trans (hA1.out.mono HB1.out.size)
  clear HX hB1 HA hp
  obtain ⟨_, ⟨x0, x1, x2, x3, x4, x5, x6, x7⟩, x8, x9, x10⟩ := HX1.out
  go_wp2_with fail
  refine (hq1.out _).mono ?_
  rintro e w2 ⟨rfl, hB2⟩
  have HX2 := hide (HX1'.out.later hB2)
  have HB2 : Hid (Below w.heap.size w w2) := HB1'.out.trans (hB2.mono HB1'.out.size)
  have HH2 := hide (HH1.out.later hB2)
  obtain ⟨_, y0, y1, y2, y3, y4⟩ := HH2.out
  clear x0 x1 x2 x3 x4 x5 x6 x7 x8 x9 x10 HX1 hB2 HB1 hq1 HH1 HX1' HB1' hA1
  obtain ⟨_, ⟨x0, x1, x2, x3, x4, x5, x6, x7⟩, x8, x9, x10⟩ := HX2.out
  cases r1
  · go_wp2
    go_ret
    exact ⟨by simp, HB2.out⟩
  go_wp2_with fail
  refine (hq2.out _).mono ?_
  rintro e w3 ⟨rfl, hB3⟩
  have HX3 := hide (HX2.out.later hB3)
  have HB3 : Hid (Below w.heap.size w w3) := HB2.out.trans (hB3.mono HB2.out.size)
  have HH3 := hide (HH2.out.later hB3)
  clear y0 y1 y2 y3 y4
  obtain ⟨_, y0, y1, y2, y3, y4⟩ := HH3.out
  clear HH2 x0 x1 x2 x3 x4 x5 x6 x7 x8 x9 x10 HX2 hB3 HB2 hq2
  obtain ⟨_, ⟨x0, x1, x2, x3, x4, x5, x6, x7⟩, x8, x9, x10⟩ := HX3.out
  cases r2
  · go_wp2
    go_ret
    exact ⟨by simp, HB3.out⟩
  go_wp2_with fail
  refine (hq3.out _ HB3.out).mono ?_
  rintro e w4 ⟨rfl, hB4⟩
  have HX4 := hide (HX3.out.later hB4)
  have HB4 : Hid (Below w.heap.size w w4) := HB3.out.trans (hB4.mono HB3.out.size)
  have HH4 := hide (HH3.out.later hB4)
  clear y0 y1 y2 y3 y4
  obtain ⟨_, y0, y1, y2, y3, y4⟩ := HH4.out
  clear HH3 x0 x1 x2 x3 x4 x5 x6 x7 x8 x9 x10 HX3 hB4 HB3 hq3
  obtain ⟨_, ⟨x0, x1, x2, x3, x4, x5, x6, x7⟩, x8, x9, x10⟩ := HX4.out
  cases r3
  · go_wp2
    go_ret
    exact ⟨by simp, HB4.out⟩
  by_cases hb0 : b.len = 0
  · have hbi : ¬ (0 : Int) < (b.len : Int) := by omega
    have hfb : fb = false := by
      cases fb
      · rfl
      · have := HBP.out rfl
        omega
    subst hfb
    clear hb0
    go_wp2
    go_ret
    exact ⟨by simp, HB4.out⟩
  · have hbi : (0 : Int) < (b.len : Int) := by omega
    clear hb0 HBP
    go_wp2_with fail
    refine (hqb.out _ HB4.out).mono ?_
    rintro e w5 ⟨rfl, hB5⟩
    have HB5 : Hid (Below w.heap.size w w5) := HB4.out.trans (hB5.mono HB4.out.size)
    clear x0 x1 x2 x3 x4 x5 x6 x7 x8 x9 x10 y0 y1 y2 y3 y4
    obtain ⟨_, ⟨x0, x1, x2, x3, x4, x5, x6, x7⟩, x8, x9, x10⟩ := HX4.out.later hB5
    obtain ⟨_, y0, y1, y2, y3, y4⟩ := HH4.out.later hB5
    clear hB5 HX4 HH4 HB4 hqb
    cases fb
    · go_wp2
      go_ret
      exact ⟨by simp, HB5.out⟩
    by_cases hl0 : l.len = 0
    · have hli : ((l.len : Int) == 0) = true := by simp [hl0]
      have HL0 := hide (show (l.len == 0) = true by simp [hl0])
      clear hl0
      go_wp2
      go_ret
      exact ⟨by rw [HL0.out]; rfl, HB5.out⟩
    · have hli : ((l.len : Int) == 0) = false := by simp [hl0]
      have HL0 := hide (show (l.len == 0) = false by simp [hl0])
      clear hl0
      go_wp2_with fail
      refine (hql.out _ HB5.out).mono ?_
      rintro e w6 ⟨rfl, hB6⟩
      go_wp2
      go_ret
      exact ⟨by rw [HL0.out]; simp, HB5.out.trans (hB6.mono HB5.out.size)⟩

set_option maxHeartbeats 6400000 in
set_option maxRecDepth 100000 in
theorem stepFits_c (k : Int) (nm wh : ByteArray) (xk xvk xvn : Int) (xvt xnm : ByteArray) (ek : Fo) (b l : Ps) (d : Nat) (hd : 1 ≤ d) (hd4 : d ≤ 4) (hkb : FmP 44 b (d - 1)) (hkl : FmP 44 l (d - 1)) (he1 : ek.len ≤ 1048576) (he2 : ek.Sm) (hb1 : b.len ≤ 1048576) (hb2 : b.Sm) (hl1 : l.len ≤ 1048576) (hl2 : l.Sm)
    (hw1 : nm.size ≤ maxLen) (hw2 : wh.size ≤ maxLen) (hw3 : xvt.size ≤ maxLen) (hw4 : xnm.size ≤ maxLen) (hw5 : ek.Wf) (hwb : b.Wf) (hwl : l.Wf) (ve vb vl : Value) (w : World) (hre : RowAt 0 w ek ve) (hrb : PRow 0 w b vb) (hrl : PRow 0 w l vl) (hk : k = 4) :
    Calls Tryz.prog 65 #[.agg #[.int .i64 k, .string nm, .string wh, .int .i64 xk, .int .i64 xvk, .int .i64 xvn, .string xvt, .string xnm, ve, vb, vl], .int .i64 d] w fun e w' => e = .returned (.bool (Pl.formBy ⟨k, nm, wh, ⟨xk, xvk, xvn, xvt, xnm⟩, ek⟩ b.len l.len (Pl.bodyB b (d - 1)) (Pl.bodyB l (d - 1)))) ∧ Below w.heap.size w w' := by
  have hp := hide (partsOf_any k)
  rw [show Pl.hasN k = false by rcases hk with rfl <;> rfl, show Pl.hasW k = false by rcases hk with rfl <;> rfl, show Pl.hasE k = true by rcases hk with rfl <;> rfl, show Pl.hasB k = true by rcases hk with rfl <;> rfl, show Pl.hasL k = false by rcases hk with rfl <;> rfl] at hp
  have HF : Hid (Pl.formBy ⟨k, nm, wh, ⟨xk, xvk, xvn, xvt, xnm⟩, ek⟩ b.len l.len (Pl.bodyB b (d - 1)) (Pl.bodyB l (d - 1)) = (nm.toList.isEmpty && (wh.toList.isEmpty && (Pl.okN ⟨xk, xvk, xvn, xvt, xnm⟩ ek 5 && (Pl.bodyB b (d - 1) && (l.len == 0)))))) := by
    rcases hk with rfl <;> rfl
  have hq1 : Hid (∀ W, Calls Tryz.prog 93 #[.string nm, .bool false] W fun e w' => e = .returned (.bool (nm.toList.isEmpty)) ∧ Below W.heap.size W w') := by
    refine hide fun W => ?_
    have := nameFits_any nm hw1 false W
    simpa using this
  have hq2 : Hid (∀ W, Calls Tryz.prog 93 #[.string wh, .bool false] W fun e w' => e = .returned (.bool (wh.toList.isEmpty)) ∧ Below W.heap.size W w') := by
    refine hide fun W => ?_
    have := nameFits_any wh hw2 false W
    simpa using this
  have hq3 : Hid (∀ W, Below w.heap.size w W → Calls Tryz.prog 94 #[ndV ⟨xk, xvk, xvn, xvt, xnm⟩ ve, .bool true] W fun e w' => e = .returned (.bool (Pl.okN ⟨xk, xvk, xvn, xvt, xnm⟩ ek 5)) ∧ Below W.heap.size W w') := by
    refine hide fun W hW => ?_
    have := exprPartFits_any xk xvk xvn xvt xnm ek ve W true he1 he2 hw3 hw4 hw5 (hre.later hW)
    simpa using this
  have hqb : Hid (∀ W, Below w.heap.size w W → Calls Tryz.prog 44 #[vb, .int .i64 ((d : Int) - 1)] W fun e w' => e = .returned (.bool (Pl.bodyB b (d - 1))) ∧ Below W.heap.size W w') := by
    refine hide fun W hW => ?_
    rw [show (d : Int) - 1 = ((d - 1 : Nat) : Int) by omega]
    exact hkb vb W hwb hb1 hb2 (hrb.later hW)
  have hql : Hid (∀ W, Below w.heap.size w W → Calls Tryz.prog 44 #[vl, .int .i64 ((d : Int) - 1)] W fun e w' => e = .returned (.bool (Pl.bodyB l (d - 1))) ∧ Below W.heap.size W w') := by
    refine hide fun W hW => ?_
    rw [show (d : Int) - 1 = ((d - 1 : Nat) : Int) by omega]
    exact hkl vl W hwl hl1 hl2 (hrl.later hW)
  have HBP : Hid (Pl.bodyB b (d - 1) = true → 0 < b.len) := by
    refine hide fun h => ?_
    simp only [Pl.bodyB, Bool.and_eq_true, decide_eq_true_eq] at h
    exact h.2.1.1
  rw [HF.out]
  clear HF hkb hkl he2 hb2 hl2 hwb hwl hw5 hw1 hw2 hw3 hw4 hk
  obtain ⟨ade, cape, rfl, _, _, _⟩ := hre
  obtain ⟨adb, capb, rfl, _, _, _⟩ := hrb
  obtain ⟨adl, capl, rfl, _, _, _⟩ := hrl
  have HX := hide (Box11.mk (sn := ⟨k, nm, wh, ⟨xk, xvk, xvn, xvt, xnm⟩, ek⟩) (ve := .slice ade ek.len cape) (vb := .slice adb b.len capb) (vl := .slice adl l.len capl) (T := 47) w)
  have HA : Hid (Below w.heap.size w (w.alloc (.cells #[.int .i64 k, .string nm, .string wh, .int .i64 xk, .int .i64 xvk, .int .i64 xvn, .string xvt, .string xnm, .slice ade ek.len cape, .slice adb b.len capb, .slice adl l.len capl] 47))) := (Below.refl _ _).alloc (Nat.le_refl _) _
  generalize nm.toList.isEmpty = r1 at hq1 ⊢
  generalize wh.toList.isEmpty = r2 at hq2 ⊢
  generalize Pl.okN ⟨xk, xvk, xvn, xvt, xnm⟩ ek 5 = r3 at hq3 ⊢
  generalize Pl.bodyB b (d - 1) = fb at hqb HBP ⊢
  generalize Pl.bodyB l (d - 1) = fe at hql ⊢
  go_enter Tryz.func65, Tryz.ntmps65
  go_wp2_with fail
  refine (hp.out _).mono ?_
  rintro e w1 ⟨rfl, hB1⟩
  have HX1 := hide (HX.out.later hB1)
  have HB1 : Hid (Below w.heap.size w w1) := HA.out.trans (hB1.mono (by simp))
  have hs1 := hide HX1.out.1
  have hA1 : Hid (Below w1.heap.size w1 (w1.alloc (.cells #[.bool false, .bool false, .bool true, .bool true, .bool false] 131))) := (Below.refl _ _).alloc (Nat.le_refl _) _
  have HH1 := hide (HasAt.mk false false true true false 131 w1)
  have HX1' := hide (HX1.out.later hA1.out)
  have HB1' : Hid (Below w.heap.size w (w1.alloc (.cells #[.bool false, .bool false, .bool true, .bool true, .bool false] 131))) := HB1.out.trans (hA1.out.mono HB1.out.size)
  clear HX hB1 HA hp
  obtain ⟨_, ⟨x0, x1, x2, x3, x4, x5, x6, x7⟩, x8, x9, x10⟩ := HX1.out
  go_wp2_with fail
  refine (hq1.out _).mono ?_
  rintro e w2 ⟨rfl, hB2⟩
  have HX2 := hide (HX1'.out.later hB2)
  have HB2 : Hid (Below w.heap.size w w2) := HB1'.out.trans (hB2.mono HB1'.out.size)
  have HH2 := hide (HH1.out.later hB2)
  obtain ⟨_, y0, y1, y2, y3, y4⟩ := HH2.out
  clear x0 x1 x2 x3 x4 x5 x6 x7 x8 x9 x10 HX1 hB2 HB1 hq1 HH1 HX1' HB1' hA1
  obtain ⟨_, ⟨x0, x1, x2, x3, x4, x5, x6, x7⟩, x8, x9, x10⟩ := HX2.out
  cases r1
  · go_wp2
    go_ret
    exact ⟨by simp, HB2.out⟩
  go_wp2_with fail
  refine (hq2.out _).mono ?_
  rintro e w3 ⟨rfl, hB3⟩
  have HX3 := hide (HX2.out.later hB3)
  have HB3 : Hid (Below w.heap.size w w3) := HB2.out.trans (hB3.mono HB2.out.size)
  have HH3 := hide (HH2.out.later hB3)
  clear y0 y1 y2 y3 y4
  obtain ⟨_, y0, y1, y2, y3, y4⟩ := HH3.out
  clear HH2 x0 x1 x2 x3 x4 x5 x6 x7 x8 x9 x10 HX2 hB3 HB2 hq2
  obtain ⟨_, ⟨x0, x1, x2, x3, x4, x5, x6, x7⟩, x8, x9, x10⟩ := HX3.out
  cases r2
  · go_wp2
    go_ret
    exact ⟨by simp, HB3.out⟩
  go_wp2_with fail
  refine (hq3.out _ HB3.out).mono ?_
  rintro e w4 ⟨rfl, hB4⟩
  have HX4 := hide (HX3.out.later hB4)
  have HB4 : Hid (Below w.heap.size w w4) := HB3.out.trans (hB4.mono HB3.out.size)
  have HH4 := hide (HH3.out.later hB4)
  clear y0 y1 y2 y3 y4
  obtain ⟨_, y0, y1, y2, y3, y4⟩ := HH4.out
  clear HH3 x0 x1 x2 x3 x4 x5 x6 x7 x8 x9 x10 HX3 hB4 HB3 hq3
  obtain ⟨_, ⟨x0, x1, x2, x3, x4, x5, x6, x7⟩, x8, x9, x10⟩ := HX4.out
  cases r3
  · go_wp2
    go_ret
    exact ⟨by simp, HB4.out⟩
  by_cases hb0 : b.len = 0
  · have hbi : ¬ (0 : Int) < (b.len : Int) := by omega
    have hfb : fb = false := by
      cases fb
      · rfl
      · have := HBP.out rfl
        omega
    subst hfb
    clear hb0
    go_wp2
    go_ret
    exact ⟨by simp, HB4.out⟩
  · have hbi : (0 : Int) < (b.len : Int) := by omega
    clear hb0 HBP
    go_wp2_with fail
    refine (hqb.out _ HB4.out).mono ?_
    rintro e w5 ⟨rfl, hB5⟩
    have HB5 : Hid (Below w.heap.size w w5) := HB4.out.trans (hB5.mono HB4.out.size)
    clear x0 x1 x2 x3 x4 x5 x6 x7 x8 x9 x10 y0 y1 y2 y3 y4
    obtain ⟨_, ⟨x0, x1, x2, x3, x4, x5, x6, x7⟩, x8, x9, x10⟩ := HX4.out.later hB5
    obtain ⟨_, y0, y1, y2, y3, y4⟩ := HH4.out.later hB5
    clear hB5 HX4 HH4 HB4 hqb
    cases fb
    · go_wp2
      go_ret
      exact ⟨by simp, HB5.out⟩
    by_cases hl0 : l.len = 0
    · have hli : ((l.len : Int) == 0) = true := by simp [hl0]
      have HL0 := hide (show (l.len == 0) = true by simp [hl0])
      clear hl0
      go_wp2
      go_ret
      exact ⟨by rw [HL0.out]; rfl, HB5.out⟩
    · have hli : ((l.len : Int) == 0) = false := by simp [hl0]
      have HL0 := hide (show (l.len == 0) = false by simp [hl0])
      clear hl0
      go_wp2
      go_ret
      exact ⟨by rw [HL0.out]; rfl, HB5.out⟩

set_option maxHeartbeats 6400000 in
set_option maxRecDepth 100000 in
theorem stepFits_d (k : Int) (nm wh : ByteArray) (xk xvk xvn : Int) (xvt xnm : ByteArray) (ek : Fo) (b l : Ps) (d : Nat) (hd : 1 ≤ d) (hd4 : d ≤ 4) (hkb : FmP 44 b (d - 1)) (hkl : FmP 44 l (d - 1)) (he1 : ek.len ≤ 1048576) (he2 : ek.Sm) (hb1 : b.len ≤ 1048576) (hb2 : b.Sm) (hl1 : l.len ≤ 1048576) (hl2 : l.Sm)
    (hw1 : nm.size ≤ maxLen) (hw2 : wh.size ≤ maxLen) (hw3 : xvt.size ≤ maxLen) (hw4 : xnm.size ≤ maxLen) (hw5 : ek.Wf) (hwb : b.Wf) (hwl : l.Wf) (ve vb vl : Value) (w : World) (hre : RowAt 0 w ek ve) (hrb : PRow 0 w b vb) (hrl : PRow 0 w l vl) (hk : k = 5 ∨ k = 6 ∨ k = 10) :
    Calls Tryz.prog 65 #[.agg #[.int .i64 k, .string nm, .string wh, .int .i64 xk, .int .i64 xvk, .int .i64 xvn, .string xvt, .string xnm, ve, vb, vl], .int .i64 d] w fun e w' => e = .returned (.bool (Pl.formBy ⟨k, nm, wh, ⟨xk, xvk, xvn, xvt, xnm⟩, ek⟩ b.len l.len (Pl.bodyB b (d - 1)) (Pl.bodyB l (d - 1)))) ∧ Below w.heap.size w w' := by
  have hp := hide (partsOf_any k)
  rw [show Pl.hasN k = true by rcases hk with rfl | rfl | rfl <;> rfl, show Pl.hasW k = true by rcases hk with rfl | rfl | rfl <;> rfl, show Pl.hasE k = true by rcases hk with rfl | rfl | rfl <;> rfl, show Pl.hasB k = false by rcases hk with rfl | rfl | rfl <;> rfl, show Pl.hasL k = false by rcases hk with rfl | rfl | rfl <;> rfl] at hp
  have HF : Hid (Pl.formBy ⟨k, nm, wh, ⟨xk, xvk, xvn, xvt, xnm⟩, ek⟩ b.len l.len (Pl.bodyB b (d - 1)) (Pl.bodyB l (d - 1)) = (Pl.nameB nm && (Pl.nameB wh && (Pl.okN ⟨xk, xvk, xvn, xvt, xnm⟩ ek 5 && ((b.len : Int) + (l.len : Int) == 0))))) := by
    rcases hk with rfl | rfl | rfl <;> rfl
  have hq1 : Hid (∀ W, Calls Tryz.prog 93 #[.string nm, .bool true] W fun e w' => e = .returned (.bool (Pl.nameB nm)) ∧ Below W.heap.size W w') := by
    refine hide fun W => ?_
    have := nameFits_any nm hw1 true W
    simpa using this
  have hq2 : Hid (∀ W, Calls Tryz.prog 93 #[.string wh, .bool true] W fun e w' => e = .returned (.bool (Pl.nameB wh)) ∧ Below W.heap.size W w') := by
    refine hide fun W => ?_
    have := nameFits_any wh hw2 true W
    simpa using this
  have hq3 : Hid (∀ W, Below w.heap.size w W → Calls Tryz.prog 94 #[ndV ⟨xk, xvk, xvn, xvt, xnm⟩ ve, .bool true] W fun e w' => e = .returned (.bool (Pl.okN ⟨xk, xvk, xvn, xvt, xnm⟩ ek 5)) ∧ Below W.heap.size W w') := by
    refine hide fun W hW => ?_
    have := exprPartFits_any xk xvk xvn xvt xnm ek ve W true he1 he2 hw3 hw4 hw5 (hre.later hW)
    simpa using this
  have hqb : Hid (∀ W, Below w.heap.size w W → Calls Tryz.prog 44 #[vb, .int .i64 ((d : Int) - 1)] W fun e w' => e = .returned (.bool (Pl.bodyB b (d - 1))) ∧ Below W.heap.size W w') := by
    refine hide fun W hW => ?_
    rw [show (d : Int) - 1 = ((d - 1 : Nat) : Int) by omega]
    exact hkb vb W hwb hb1 hb2 (hrb.later hW)
  have hql : Hid (∀ W, Below w.heap.size w W → Calls Tryz.prog 44 #[vl, .int .i64 ((d : Int) - 1)] W fun e w' => e = .returned (.bool (Pl.bodyB l (d - 1))) ∧ Below W.heap.size W w') := by
    refine hide fun W hW => ?_
    rw [show (d : Int) - 1 = ((d - 1 : Nat) : Int) by omega]
    exact hkl vl W hwl hl1 hl2 (hrl.later hW)
  have HBP : Hid (Pl.bodyB b (d - 1) = true → 0 < b.len) := by
    refine hide fun h => ?_
    simp only [Pl.bodyB, Bool.and_eq_true, decide_eq_true_eq] at h
    exact h.2.1.1
  rw [HF.out]
  clear HF hkb hkl he2 hb2 hl2 hwb hwl hw5 hw1 hw2 hw3 hw4 hk
  obtain ⟨ade, cape, rfl, _, _, _⟩ := hre
  obtain ⟨adb, capb, rfl, _, _, _⟩ := hrb
  obtain ⟨adl, capl, rfl, _, _, _⟩ := hrl
  have HX := hide (Box11.mk (sn := ⟨k, nm, wh, ⟨xk, xvk, xvn, xvt, xnm⟩, ek⟩) (ve := .slice ade ek.len cape) (vb := .slice adb b.len capb) (vl := .slice adl l.len capl) (T := 47) w)
  have HA : Hid (Below w.heap.size w (w.alloc (.cells #[.int .i64 k, .string nm, .string wh, .int .i64 xk, .int .i64 xvk, .int .i64 xvn, .string xvt, .string xnm, .slice ade ek.len cape, .slice adb b.len capb, .slice adl l.len capl] 47))) := (Below.refl _ _).alloc (Nat.le_refl _) _
  generalize Pl.nameB nm = r1 at hq1 ⊢
  generalize Pl.nameB wh = r2 at hq2 ⊢
  generalize Pl.okN ⟨xk, xvk, xvn, xvt, xnm⟩ ek 5 = r3 at hq3 ⊢
  generalize Pl.bodyB b (d - 1) = fb at hqb HBP ⊢
  generalize Pl.bodyB l (d - 1) = fe at hql ⊢
  go_enter Tryz.func65, Tryz.ntmps65
  go_wp2_with fail
  refine (hp.out _).mono ?_
  rintro e w1 ⟨rfl, hB1⟩
  have HX1 := hide (HX.out.later hB1)
  have HB1 : Hid (Below w.heap.size w w1) := HA.out.trans (hB1.mono (by simp))
  have hs1 := hide HX1.out.1
  have hA1 : Hid (Below w1.heap.size w1 (w1.alloc (.cells #[.bool true, .bool true, .bool true, .bool false, .bool false] 131))) := (Below.refl _ _).alloc (Nat.le_refl _) _
  have HH1 := hide (HasAt.mk true true true false false 131 w1)
  have HX1' := hide (HX1.out.later hA1.out)
  have HB1' : Hid (Below w.heap.size w (w1.alloc (.cells #[.bool true, .bool true, .bool true, .bool false, .bool false] 131))) := HB1.out.trans (hA1.out.mono HB1.out.size)
  clear HX hB1 HA hp
  obtain ⟨_, ⟨x0, x1, x2, x3, x4, x5, x6, x7⟩, x8, x9, x10⟩ := HX1.out
  go_wp2_with fail
  refine (hq1.out _).mono ?_
  rintro e w2 ⟨rfl, hB2⟩
  have HX2 := hide (HX1'.out.later hB2)
  have HB2 : Hid (Below w.heap.size w w2) := HB1'.out.trans (hB2.mono HB1'.out.size)
  have HH2 := hide (HH1.out.later hB2)
  obtain ⟨_, y0, y1, y2, y3, y4⟩ := HH2.out
  clear x0 x1 x2 x3 x4 x5 x6 x7 x8 x9 x10 HX1 hB2 HB1 hq1 HH1 HX1' HB1' hA1
  obtain ⟨_, ⟨x0, x1, x2, x3, x4, x5, x6, x7⟩, x8, x9, x10⟩ := HX2.out
  cases r1
  · go_wp2
    go_ret
    exact ⟨by simp, HB2.out⟩
  go_wp2_with fail
  refine (hq2.out _).mono ?_
  rintro e w3 ⟨rfl, hB3⟩
  have HX3 := hide (HX2.out.later hB3)
  have HB3 : Hid (Below w.heap.size w w3) := HB2.out.trans (hB3.mono HB2.out.size)
  have HH3 := hide (HH2.out.later hB3)
  clear y0 y1 y2 y3 y4
  obtain ⟨_, y0, y1, y2, y3, y4⟩ := HH3.out
  clear HH2 x0 x1 x2 x3 x4 x5 x6 x7 x8 x9 x10 HX2 hB3 HB2 hq2
  obtain ⟨_, ⟨x0, x1, x2, x3, x4, x5, x6, x7⟩, x8, x9, x10⟩ := HX3.out
  cases r2
  · go_wp2
    go_ret
    exact ⟨by simp, HB3.out⟩
  go_wp2_with fail
  refine (hq3.out _ HB3.out).mono ?_
  rintro e w4 ⟨rfl, hB4⟩
  have HX4 := hide (HX3.out.later hB4)
  have HB4 : Hid (Below w.heap.size w w4) := HB3.out.trans (hB4.mono HB3.out.size)
  have HH4 := hide (HH3.out.later hB4)
  clear y0 y1 y2 y3 y4
  obtain ⟨_, y0, y1, y2, y3, y4⟩ := HH4.out
  clear HH3 x0 x1 x2 x3 x4 x5 x6 x7 x8 x9 x10 HX3 hB4 HB3 hq3
  obtain ⟨_, ⟨x0, x1, x2, x3, x4, x5, x6, x7⟩, x8, x9, x10⟩ := HX4.out
  cases r3
  · go_wp2
    go_ret
    exact ⟨by simp, HB4.out⟩
  by_cases hb0 : b.len = 0
  · have hbi : ¬ (0 : Int) < (b.len : Int) := by omega
    by_cases hl0 : l.len = 0
    · have hli : ((l.len : Int) == 0) = true := by simp [hl0]
      have hsum : ((b.len : Int) + (l.len : Int) == 0) = true := by simp [hb0, hl0]
      have HSUM := hide hsum
      clear hsum hb0 hl0
      go_wp2
      go_ret
      exact ⟨by rw [HSUM.out]; rfl, HB4.out⟩
    · have hli : ((l.len : Int) == 0) = false := by simp [hl0]
      have hsum : ((b.len : Int) + (l.len : Int) == 0) = false := beq_eq_false_iff_ne.2 (by omega)
      have HSUM := hide hsum
      clear hsum hb0 hl0
      go_wp2
      go_ret
      exact ⟨by rw [HSUM.out]; rfl, HB4.out⟩
  · have hbi : (0 : Int) < (b.len : Int) := by omega
    have hsum : ((b.len : Int) + (l.len : Int) == 0) = false := beq_eq_false_iff_ne.2 (by omega)
    have HSUM := hide hsum
    clear hsum hb0
    go_wp2
    go_ret
    exact ⟨by rw [HSUM.out]; rfl, HB4.out⟩

set_option maxHeartbeats 6400000 in
set_option maxRecDepth 100000 in
theorem stepFits_e (k : Int) (nm wh : ByteArray) (xk xvk xvn : Int) (xvt xnm : ByteArray) (ek : Fo) (b l : Ps) (d : Nat) (hd : 1 ≤ d) (hd4 : d ≤ 4) (hkb : FmP 44 b (d - 1)) (hkl : FmP 44 l (d - 1)) (he1 : ek.len ≤ 1048576) (he2 : ek.Sm) (hb1 : b.len ≤ 1048576) (hb2 : b.Sm) (hl1 : l.len ≤ 1048576) (hl2 : l.Sm)
    (hw1 : nm.size ≤ maxLen) (hw2 : wh.size ≤ maxLen) (hw3 : xvt.size ≤ maxLen) (hw4 : xnm.size ≤ maxLen) (hw5 : ek.Wf) (hwb : b.Wf) (hwl : l.Wf) (ve vb vl : Value) (w : World) (hre : RowAt 0 w ek ve) (hrb : PRow 0 w b vb) (hrl : PRow 0 w l vl) (hk : k = 7 ∨ k = 9) :
    Calls Tryz.prog 65 #[.agg #[.int .i64 k, .string nm, .string wh, .int .i64 xk, .int .i64 xvk, .int .i64 xvn, .string xvt, .string xnm, ve, vb, vl], .int .i64 d] w fun e w' => e = .returned (.bool (Pl.formBy ⟨k, nm, wh, ⟨xk, xvk, xvn, xvt, xnm⟩, ek⟩ b.len l.len (Pl.bodyB b (d - 1)) (Pl.bodyB l (d - 1)))) ∧ Below w.heap.size w w' := by
  have hp := hide (partsOf_any k)
  rw [show Pl.hasN k = true by rcases hk with rfl | rfl <;> rfl, show Pl.hasW k = true by rcases hk with rfl | rfl <;> rfl, show Pl.hasE k = false by rcases hk with rfl | rfl <;> rfl, show Pl.hasB k = false by rcases hk with rfl | rfl <;> rfl, show Pl.hasL k = false by rcases hk with rfl | rfl <;> rfl] at hp
  have HF : Hid (Pl.formBy ⟨k, nm, wh, ⟨xk, xvk, xvn, xvt, xnm⟩, ek⟩ b.len l.len (Pl.bodyB b (d - 1)) (Pl.bodyB l (d - 1)) = (Pl.nameB nm && (Pl.nameB wh && (Pl.noneB ⟨xk, xvk, xvn, xvt, xnm⟩ ek && ((b.len : Int) + (l.len : Int) == 0))))) := by
    rcases hk with rfl | rfl <;> rfl
  have hq1 : Hid (∀ W, Calls Tryz.prog 93 #[.string nm, .bool true] W fun e w' => e = .returned (.bool (Pl.nameB nm)) ∧ Below W.heap.size W w') := by
    refine hide fun W => ?_
    have := nameFits_any nm hw1 true W
    simpa using this
  have hq2 : Hid (∀ W, Calls Tryz.prog 93 #[.string wh, .bool true] W fun e w' => e = .returned (.bool (Pl.nameB wh)) ∧ Below W.heap.size W w') := by
    refine hide fun W => ?_
    have := nameFits_any wh hw2 true W
    simpa using this
  have hq3 : Hid (∀ W, Below w.heap.size w W → Calls Tryz.prog 94 #[ndV ⟨xk, xvk, xvn, xvt, xnm⟩ ve, .bool false] W fun e w' => e = .returned (.bool (Pl.noneB ⟨xk, xvk, xvn, xvt, xnm⟩ ek)) ∧ Below W.heap.size W w') := by
    refine hide fun W hW => ?_
    have := exprPartFits_any xk xvk xvn xvt xnm ek ve W false he1 he2 hw3 hw4 hw5 (hre.later hW)
    simpa using this
  have hqb : Hid (∀ W, Below w.heap.size w W → Calls Tryz.prog 44 #[vb, .int .i64 ((d : Int) - 1)] W fun e w' => e = .returned (.bool (Pl.bodyB b (d - 1))) ∧ Below W.heap.size W w') := by
    refine hide fun W hW => ?_
    rw [show (d : Int) - 1 = ((d - 1 : Nat) : Int) by omega]
    exact hkb vb W hwb hb1 hb2 (hrb.later hW)
  have hql : Hid (∀ W, Below w.heap.size w W → Calls Tryz.prog 44 #[vl, .int .i64 ((d : Int) - 1)] W fun e w' => e = .returned (.bool (Pl.bodyB l (d - 1))) ∧ Below W.heap.size W w') := by
    refine hide fun W hW => ?_
    rw [show (d : Int) - 1 = ((d - 1 : Nat) : Int) by omega]
    exact hkl vl W hwl hl1 hl2 (hrl.later hW)
  have HBP : Hid (Pl.bodyB b (d - 1) = true → 0 < b.len) := by
    refine hide fun h => ?_
    simp only [Pl.bodyB, Bool.and_eq_true, decide_eq_true_eq] at h
    exact h.2.1.1
  rw [HF.out]
  clear HF hkb hkl he2 hb2 hl2 hwb hwl hw5 hw1 hw2 hw3 hw4 hk
  obtain ⟨ade, cape, rfl, _, _, _⟩ := hre
  obtain ⟨adb, capb, rfl, _, _, _⟩ := hrb
  obtain ⟨adl, capl, rfl, _, _, _⟩ := hrl
  have HX := hide (Box11.mk (sn := ⟨k, nm, wh, ⟨xk, xvk, xvn, xvt, xnm⟩, ek⟩) (ve := .slice ade ek.len cape) (vb := .slice adb b.len capb) (vl := .slice adl l.len capl) (T := 47) w)
  have HA : Hid (Below w.heap.size w (w.alloc (.cells #[.int .i64 k, .string nm, .string wh, .int .i64 xk, .int .i64 xvk, .int .i64 xvn, .string xvt, .string xnm, .slice ade ek.len cape, .slice adb b.len capb, .slice adl l.len capl] 47))) := (Below.refl _ _).alloc (Nat.le_refl _) _
  generalize Pl.nameB nm = r1 at hq1 ⊢
  generalize Pl.nameB wh = r2 at hq2 ⊢
  generalize Pl.noneB ⟨xk, xvk, xvn, xvt, xnm⟩ ek = r3 at hq3 ⊢
  generalize Pl.bodyB b (d - 1) = fb at hqb HBP ⊢
  generalize Pl.bodyB l (d - 1) = fe at hql ⊢
  go_enter Tryz.func65, Tryz.ntmps65
  go_wp2_with fail
  refine (hp.out _).mono ?_
  rintro e w1 ⟨rfl, hB1⟩
  have HX1 := hide (HX.out.later hB1)
  have HB1 : Hid (Below w.heap.size w w1) := HA.out.trans (hB1.mono (by simp))
  have hs1 := hide HX1.out.1
  have hA1 : Hid (Below w1.heap.size w1 (w1.alloc (.cells #[.bool true, .bool true, .bool false, .bool false, .bool false] 131))) := (Below.refl _ _).alloc (Nat.le_refl _) _
  have HH1 := hide (HasAt.mk true true false false false 131 w1)
  have HX1' := hide (HX1.out.later hA1.out)
  have HB1' : Hid (Below w.heap.size w (w1.alloc (.cells #[.bool true, .bool true, .bool false, .bool false, .bool false] 131))) := HB1.out.trans (hA1.out.mono HB1.out.size)
  clear HX hB1 HA hp
  obtain ⟨_, ⟨x0, x1, x2, x3, x4, x5, x6, x7⟩, x8, x9, x10⟩ := HX1.out
  go_wp2_with fail
  refine (hq1.out _).mono ?_
  rintro e w2 ⟨rfl, hB2⟩
  have HX2 := hide (HX1'.out.later hB2)
  have HB2 : Hid (Below w.heap.size w w2) := HB1'.out.trans (hB2.mono HB1'.out.size)
  have HH2 := hide (HH1.out.later hB2)
  obtain ⟨_, y0, y1, y2, y3, y4⟩ := HH2.out
  clear x0 x1 x2 x3 x4 x5 x6 x7 x8 x9 x10 HX1 hB2 HB1 hq1 HH1 HX1' HB1' hA1
  obtain ⟨_, ⟨x0, x1, x2, x3, x4, x5, x6, x7⟩, x8, x9, x10⟩ := HX2.out
  cases r1
  · go_wp2
    go_ret
    exact ⟨by simp, HB2.out⟩
  go_wp2_with fail
  refine (hq2.out _).mono ?_
  rintro e w3 ⟨rfl, hB3⟩
  have HX3 := hide (HX2.out.later hB3)
  have HB3 : Hid (Below w.heap.size w w3) := HB2.out.trans (hB3.mono HB2.out.size)
  have HH3 := hide (HH2.out.later hB3)
  clear y0 y1 y2 y3 y4
  obtain ⟨_, y0, y1, y2, y3, y4⟩ := HH3.out
  clear HH2 x0 x1 x2 x3 x4 x5 x6 x7 x8 x9 x10 HX2 hB3 HB2 hq2
  obtain ⟨_, ⟨x0, x1, x2, x3, x4, x5, x6, x7⟩, x8, x9, x10⟩ := HX3.out
  cases r2
  · go_wp2
    go_ret
    exact ⟨by simp, HB3.out⟩
  go_wp2_with fail
  refine (hq3.out _ HB3.out).mono ?_
  rintro e w4 ⟨rfl, hB4⟩
  have HX4 := hide (HX3.out.later hB4)
  have HB4 : Hid (Below w.heap.size w w4) := HB3.out.trans (hB4.mono HB3.out.size)
  have HH4 := hide (HH3.out.later hB4)
  clear y0 y1 y2 y3 y4
  obtain ⟨_, y0, y1, y2, y3, y4⟩ := HH4.out
  clear HH3 x0 x1 x2 x3 x4 x5 x6 x7 x8 x9 x10 HX3 hB4 HB3 hq3
  obtain ⟨_, ⟨x0, x1, x2, x3, x4, x5, x6, x7⟩, x8, x9, x10⟩ := HX4.out
  cases r3
  · go_wp2
    go_ret
    exact ⟨by simp, HB4.out⟩
  by_cases hb0 : b.len = 0
  · have hbi : ¬ (0 : Int) < (b.len : Int) := by omega
    by_cases hl0 : l.len = 0
    · have hli : ((l.len : Int) == 0) = true := by simp [hl0]
      have hsum : ((b.len : Int) + (l.len : Int) == 0) = true := by simp [hb0, hl0]
      have HSUM := hide hsum
      clear hsum hb0 hl0
      go_wp2
      go_ret
      exact ⟨by rw [HSUM.out]; rfl, HB4.out⟩
    · have hli : ((l.len : Int) == 0) = false := by simp [hl0]
      have hsum : ((b.len : Int) + (l.len : Int) == 0) = false := beq_eq_false_iff_ne.2 (by omega)
      have HSUM := hide hsum
      clear hsum hb0 hl0
      go_wp2
      go_ret
      exact ⟨by rw [HSUM.out]; rfl, HB4.out⟩
  · have hbi : (0 : Int) < (b.len : Int) := by omega
    have hsum : ((b.len : Int) + (l.len : Int) == 0) = false := beq_eq_false_iff_ne.2 (by omega)
    have HSUM := hide hsum
    clear hsum hb0
    go_wp2
    go_ret
    exact ⟨by rw [HSUM.out]; rfl, HB4.out⟩

set_option maxHeartbeats 6400000 in
set_option maxRecDepth 100000 in
theorem stepFits_f (k : Int) (nm wh : ByteArray) (xk xvk xvn : Int) (xvt xnm : ByteArray) (ek : Fo) (b l : Ps) (d : Nat) (hd : 1 ≤ d) (hd4 : d ≤ 4) (hkb : FmP 44 b (d - 1)) (hkl : FmP 44 l (d - 1)) (he1 : ek.len ≤ 1048576) (he2 : ek.Sm) (hb1 : b.len ≤ 1048576) (hb2 : b.Sm) (hl1 : l.len ≤ 1048576) (hl2 : l.Sm)
    (hw1 : nm.size ≤ maxLen) (hw2 : wh.size ≤ maxLen) (hw3 : xvt.size ≤ maxLen) (hw4 : xnm.size ≤ maxLen) (hw5 : ek.Wf) (hwb : b.Wf) (hwl : l.Wf) (ve vb vl : Value) (w : World) (hre : RowAt 0 w ek ve) (hrb : PRow 0 w b vb) (hrl : PRow 0 w l vl) (hk : k = 8 ∨ k = 11 ∨ k = 12 ∨ k = 13) :
    Calls Tryz.prog 65 #[.agg #[.int .i64 k, .string nm, .string wh, .int .i64 xk, .int .i64 xvk, .int .i64 xvn, .string xvt, .string xnm, ve, vb, vl], .int .i64 d] w fun e w' => e = .returned (.bool (Pl.formBy ⟨k, nm, wh, ⟨xk, xvk, xvn, xvt, xnm⟩, ek⟩ b.len l.len (Pl.bodyB b (d - 1)) (Pl.bodyB l (d - 1)))) ∧ Below w.heap.size w w' := by
  have hp := hide (partsOf_any k)
  rw [show Pl.hasN k = false by rcases hk with rfl | rfl | rfl | rfl <;> rfl, show Pl.hasW k = false by rcases hk with rfl | rfl | rfl | rfl <;> rfl, show Pl.hasE k = true by rcases hk with rfl | rfl | rfl | rfl <;> rfl, show Pl.hasB k = false by rcases hk with rfl | rfl | rfl | rfl <;> rfl, show Pl.hasL k = false by rcases hk with rfl | rfl | rfl | rfl <;> rfl] at hp
  have HF : Hid (Pl.formBy ⟨k, nm, wh, ⟨xk, xvk, xvn, xvt, xnm⟩, ek⟩ b.len l.len (Pl.bodyB b (d - 1)) (Pl.bodyB l (d - 1)) = (nm.toList.isEmpty && (wh.toList.isEmpty && (Pl.okN ⟨xk, xvk, xvn, xvt, xnm⟩ ek 5 && ((b.len : Int) + (l.len : Int) == 0))))) := by
    rcases hk with rfl | rfl | rfl | rfl <;> rfl
  have hq1 : Hid (∀ W, Calls Tryz.prog 93 #[.string nm, .bool false] W fun e w' => e = .returned (.bool (nm.toList.isEmpty)) ∧ Below W.heap.size W w') := by
    refine hide fun W => ?_
    have := nameFits_any nm hw1 false W
    simpa using this
  have hq2 : Hid (∀ W, Calls Tryz.prog 93 #[.string wh, .bool false] W fun e w' => e = .returned (.bool (wh.toList.isEmpty)) ∧ Below W.heap.size W w') := by
    refine hide fun W => ?_
    have := nameFits_any wh hw2 false W
    simpa using this
  have hq3 : Hid (∀ W, Below w.heap.size w W → Calls Tryz.prog 94 #[ndV ⟨xk, xvk, xvn, xvt, xnm⟩ ve, .bool true] W fun e w' => e = .returned (.bool (Pl.okN ⟨xk, xvk, xvn, xvt, xnm⟩ ek 5)) ∧ Below W.heap.size W w') := by
    refine hide fun W hW => ?_
    have := exprPartFits_any xk xvk xvn xvt xnm ek ve W true he1 he2 hw3 hw4 hw5 (hre.later hW)
    simpa using this
  have hqb : Hid (∀ W, Below w.heap.size w W → Calls Tryz.prog 44 #[vb, .int .i64 ((d : Int) - 1)] W fun e w' => e = .returned (.bool (Pl.bodyB b (d - 1))) ∧ Below W.heap.size W w') := by
    refine hide fun W hW => ?_
    rw [show (d : Int) - 1 = ((d - 1 : Nat) : Int) by omega]
    exact hkb vb W hwb hb1 hb2 (hrb.later hW)
  have hql : Hid (∀ W, Below w.heap.size w W → Calls Tryz.prog 44 #[vl, .int .i64 ((d : Int) - 1)] W fun e w' => e = .returned (.bool (Pl.bodyB l (d - 1))) ∧ Below W.heap.size W w') := by
    refine hide fun W hW => ?_
    rw [show (d : Int) - 1 = ((d - 1 : Nat) : Int) by omega]
    exact hkl vl W hwl hl1 hl2 (hrl.later hW)
  have HBP : Hid (Pl.bodyB b (d - 1) = true → 0 < b.len) := by
    refine hide fun h => ?_
    simp only [Pl.bodyB, Bool.and_eq_true, decide_eq_true_eq] at h
    exact h.2.1.1
  rw [HF.out]
  clear HF hkb hkl he2 hb2 hl2 hwb hwl hw5 hw1 hw2 hw3 hw4 hk
  obtain ⟨ade, cape, rfl, _, _, _⟩ := hre
  obtain ⟨adb, capb, rfl, _, _, _⟩ := hrb
  obtain ⟨adl, capl, rfl, _, _, _⟩ := hrl
  have HX := hide (Box11.mk (sn := ⟨k, nm, wh, ⟨xk, xvk, xvn, xvt, xnm⟩, ek⟩) (ve := .slice ade ek.len cape) (vb := .slice adb b.len capb) (vl := .slice adl l.len capl) (T := 47) w)
  have HA : Hid (Below w.heap.size w (w.alloc (.cells #[.int .i64 k, .string nm, .string wh, .int .i64 xk, .int .i64 xvk, .int .i64 xvn, .string xvt, .string xnm, .slice ade ek.len cape, .slice adb b.len capb, .slice adl l.len capl] 47))) := (Below.refl _ _).alloc (Nat.le_refl _) _
  generalize nm.toList.isEmpty = r1 at hq1 ⊢
  generalize wh.toList.isEmpty = r2 at hq2 ⊢
  generalize Pl.okN ⟨xk, xvk, xvn, xvt, xnm⟩ ek 5 = r3 at hq3 ⊢
  generalize Pl.bodyB b (d - 1) = fb at hqb HBP ⊢
  generalize Pl.bodyB l (d - 1) = fe at hql ⊢
  go_enter Tryz.func65, Tryz.ntmps65
  go_wp2_with fail
  refine (hp.out _).mono ?_
  rintro e w1 ⟨rfl, hB1⟩
  have HX1 := hide (HX.out.later hB1)
  have HB1 : Hid (Below w.heap.size w w1) := HA.out.trans (hB1.mono (by simp))
  have hs1 := hide HX1.out.1
  have hA1 : Hid (Below w1.heap.size w1 (w1.alloc (.cells #[.bool false, .bool false, .bool true, .bool false, .bool false] 131))) := (Below.refl _ _).alloc (Nat.le_refl _) _
  have HH1 := hide (HasAt.mk false false true false false 131 w1)
  have HX1' := hide (HX1.out.later hA1.out)
  have HB1' : Hid (Below w.heap.size w (w1.alloc (.cells #[.bool false, .bool false, .bool true, .bool false, .bool false] 131))) := HB1.out.trans (hA1.out.mono HB1.out.size)
  clear HX hB1 HA hp
  obtain ⟨_, ⟨x0, x1, x2, x3, x4, x5, x6, x7⟩, x8, x9, x10⟩ := HX1.out
  go_wp2_with fail
  refine (hq1.out _).mono ?_
  rintro e w2 ⟨rfl, hB2⟩
  have HX2 := hide (HX1'.out.later hB2)
  have HB2 : Hid (Below w.heap.size w w2) := HB1'.out.trans (hB2.mono HB1'.out.size)
  have HH2 := hide (HH1.out.later hB2)
  obtain ⟨_, y0, y1, y2, y3, y4⟩ := HH2.out
  clear x0 x1 x2 x3 x4 x5 x6 x7 x8 x9 x10 HX1 hB2 HB1 hq1 HH1 HX1' HB1' hA1
  obtain ⟨_, ⟨x0, x1, x2, x3, x4, x5, x6, x7⟩, x8, x9, x10⟩ := HX2.out
  cases r1
  · go_wp2
    go_ret
    exact ⟨by simp, HB2.out⟩
  go_wp2_with fail
  refine (hq2.out _).mono ?_
  rintro e w3 ⟨rfl, hB3⟩
  have HX3 := hide (HX2.out.later hB3)
  have HB3 : Hid (Below w.heap.size w w3) := HB2.out.trans (hB3.mono HB2.out.size)
  have HH3 := hide (HH2.out.later hB3)
  clear y0 y1 y2 y3 y4
  obtain ⟨_, y0, y1, y2, y3, y4⟩ := HH3.out
  clear HH2 x0 x1 x2 x3 x4 x5 x6 x7 x8 x9 x10 HX2 hB3 HB2 hq2
  obtain ⟨_, ⟨x0, x1, x2, x3, x4, x5, x6, x7⟩, x8, x9, x10⟩ := HX3.out
  cases r2
  · go_wp2
    go_ret
    exact ⟨by simp, HB3.out⟩
  go_wp2_with fail
  refine (hq3.out _ HB3.out).mono ?_
  rintro e w4 ⟨rfl, hB4⟩
  have HX4 := hide (HX3.out.later hB4)
  have HB4 : Hid (Below w.heap.size w w4) := HB3.out.trans (hB4.mono HB3.out.size)
  have HH4 := hide (HH3.out.later hB4)
  clear y0 y1 y2 y3 y4
  obtain ⟨_, y0, y1, y2, y3, y4⟩ := HH4.out
  clear HH3 x0 x1 x2 x3 x4 x5 x6 x7 x8 x9 x10 HX3 hB4 HB3 hq3
  obtain ⟨_, ⟨x0, x1, x2, x3, x4, x5, x6, x7⟩, x8, x9, x10⟩ := HX4.out
  cases r3
  · go_wp2
    go_ret
    exact ⟨by simp, HB4.out⟩
  by_cases hb0 : b.len = 0
  · have hbi : ¬ (0 : Int) < (b.len : Int) := by omega
    by_cases hl0 : l.len = 0
    · have hli : ((l.len : Int) == 0) = true := by simp [hl0]
      have hsum : ((b.len : Int) + (l.len : Int) == 0) = true := by simp [hb0, hl0]
      have HSUM := hide hsum
      clear hsum hb0 hl0
      go_wp2
      go_ret
      exact ⟨by rw [HSUM.out]; rfl, HB4.out⟩
    · have hli : ((l.len : Int) == 0) = false := by simp [hl0]
      have hsum : ((b.len : Int) + (l.len : Int) == 0) = false := beq_eq_false_iff_ne.2 (by omega)
      have HSUM := hide hsum
      clear hsum hb0 hl0
      go_wp2
      go_ret
      exact ⟨by rw [HSUM.out]; rfl, HB4.out⟩
  · have hbi : (0 : Int) < (b.len : Int) := by omega
    have hsum : ((b.len : Int) + (l.len : Int) == 0) = false := beq_eq_false_iff_ne.2 (by omega)
    have HSUM := hide hsum
    clear hsum hb0
    go_wp2
    go_ret
    exact ⟨by rw [HSUM.out]; rfl, HB4.out⟩

set_option maxHeartbeats 6400000 in
set_option maxRecDepth 100000 in
theorem stepFits_z (k : Int) (nm wh : ByteArray) (xk xvk xvn : Int) (xvt xnm : ByteArray) (ek : Fo) (b l : Ps) (d : Nat) (hd : 1 ≤ d) (hd4 : d ≤ 4) (he1 : ek.len ≤ 1048576) (he2 : ek.Sm) (hb1 : b.len ≤ 1048576) (hb2 : b.Sm) (hl1 : l.len ≤ 1048576) (hl2 : l.Sm)
    (hw1 : nm.size ≤ maxLen) (hw2 : wh.size ≤ maxLen) (hw3 : xvt.size ≤ maxLen) (hw4 : xnm.size ≤ maxLen) (hw5 : ek.Wf) (hwb : b.Wf) (hwl : l.Wf) (ve vb vl : Value) (w : World) (hre : RowAt 0 w ek ve) (hrb : PRow 0 w b vb) (hrl : PRow 0 w l vl) (hk : Pl.hasN k = false ∧ Pl.hasE k = false) (hk2 : Pl.hasW k = false ∧ Pl.hasB k = false ∧ Pl.hasL k = false) (hF : Pl.formBy ⟨k, nm, wh, ⟨xk, xvk, xvn, xvt, xnm⟩, ek⟩ b.len l.len (Pl.bodyB b (d - 1)) (Pl.bodyB l (d - 1)) = false) :
    Calls Tryz.prog 65 #[.agg #[.int .i64 k, .string nm, .string wh, .int .i64 xk, .int .i64 xvk, .int .i64 xvn, .string xvt, .string xnm, ve, vb, vl], .int .i64 d] w fun e w' => e = .returned (.bool (Pl.formBy ⟨k, nm, wh, ⟨xk, xvk, xvn, xvt, xnm⟩, ek⟩ b.len l.len (Pl.bodyB b (d - 1)) (Pl.bodyB l (d - 1)))) ∧ Below w.heap.size w w' := by
  have hp := hide (partsOf_any k)
  rw [hk.1, hk.2, hk2.1, hk2.2.1, hk2.2.2] at hp
  rw [hF]
  clear he2 hb2 hl2 hwb hwl hw5 hw1 hw2 hw3 hw4 hk hk2 hF
  obtain ⟨ade, cape, rfl, _, _, _⟩ := hre
  obtain ⟨adb, capb, rfl, _, _, _⟩ := hrb
  obtain ⟨adl, capl, rfl, _, _, _⟩ := hrl
  go_enter Tryz.func65, Tryz.ntmps65
  go_wp2_with fail
  refine (hp.out _).mono ?_
  rintro e w1 ⟨rfl, hB1⟩
  have HB1 : Hid (Below w.heap.size w w1) := ((Below.refl _ _).alloc (Nat.le_refl _) _).trans (hB1.mono (by simp))
  clear hB1
  go_wp2
  go_ret
  exact ⟨rfl, HB1.out.alloc HB1.out.size _⟩

theorem stepFits_of (sn : Sn) (b l : Ps) (d : Nat) (hd : 1 ≤ d) (hd4 : d ≤ 4) (hkb : FmP 44 b (d - 1)) (hkl : FmP 44 l (d - 1)) (he : sn.ek.len ≤ 1048576 ∧ sn.ek.Sm) (hb : b.len ≤ 1048576 ∧ b.Sm) (hl : l.len ≤ 1048576 ∧ l.Sm)
    (hw : sn.nm.size ≤ maxLen ∧ sn.wh.size ≤ maxLen ∧ sn.ex.vt.size ≤ maxLen ∧ sn.ex.nm.size ≤ maxLen ∧ sn.ek.Wf) (hwb : b.Wf) (hwl : l.Wf) (ve vb vl : Value) (w : World) (hre : RowAt 0 w sn.ek ve) (hrb : PRow 0 w b vb) (hrl : PRow 0 w l vl) :
    Calls Tryz.prog 65 #[snV sn ve vb vl, .int .i64 d] w fun e w' => e = .returned (.bool (Pl.formS sn b l d)) ∧ Below w.heap.size w w' := by
  obtain ⟨k, nm, wh, ⟨xk, xvk, xvn, xvt, xnm⟩, ek⟩ := sn
  obtain ⟨w1, w2, w3, w4, w5⟩ := hw
  unfold Pl.formS
  by_cases qa : k = 1 ∨ k = 2
  · exact stepFits_a k nm wh xk xvk xvn xvt xnm ek b l d hd hd4 hkb hkl he.1 he.2 hb.1 hb.2 hl.1 hl.2 w1 w2 w3 w4 w5 hwb hwl ve vb vl w hre hrb hrl qa
  by_cases qb : k = 3
  · exact stepFits_b k nm wh xk xvk xvn xvt xnm ek b l d hd hd4 hkb hkl he.1 he.2 hb.1 hb.2 hl.1 hl.2 w1 w2 w3 w4 w5 hwb hwl ve vb vl w hre hrb hrl qb
  by_cases qc : k = 4
  · exact stepFits_c k nm wh xk xvk xvn xvt xnm ek b l d hd hd4 hkb hkl he.1 he.2 hb.1 hb.2 hl.1 hl.2 w1 w2 w3 w4 w5 hwb hwl ve vb vl w hre hrb hrl qc
  by_cases qd : k = 5 ∨ k = 6 ∨ k = 10
  · exact stepFits_d k nm wh xk xvk xvn xvt xnm ek b l d hd hd4 hkb hkl he.1 he.2 hb.1 hb.2 hl.1 hl.2 w1 w2 w3 w4 w5 hwb hwl ve vb vl w hre hrb hrl qd
  by_cases qe : k = 7 ∨ k = 9
  · exact stepFits_e k nm wh xk xvk xvn xvt xnm ek b l d hd hd4 hkb hkl he.1 he.2 hb.1 hb.2 hl.1 hl.2 w1 w2 w3 w4 w5 hwb hwl ve vb vl w hre hrb hrl qe
  by_cases qf : k = 8 ∨ k = 11 ∨ k = 12 ∨ k = 13
  · exact stepFits_f k nm wh xk xvk xvn xvt xnm ek b l d hd hd4 hkb hkl he.1 he.2 hb.1 hb.2 hl.1 hl.2 w1 w2 w3 w4 w5 hwb hwl ve vb vl w hre hrb hrl qf
  simp only [not_or] at qa qd qe qf
  exact stepFits_z k nm wh xk xvk xvn xvt xnm ek b l d hd hd4 he.1 he.2 hb.1 hb.2 hl.1 hl.2 w1 w2 w3 w4 w5 hwb hwl ve vb vl w hre hrb hrl (by simp [Pl.hasN, Pl.hasE, qa, qb, qc, qd, qe, qf]) (by simp [Pl.hasW, Pl.hasB, Pl.hasL, qb, qc, qd, qe]) (by simp [Pl.formBy, qa, qb, qc, qd, qe, qf])
end Go.Proofs.YtnikomgdcddchaaGreat

/- Whether steps have their form, as the program has it: at every kind and depth. -/
namespace Go.Proofs.YtnikomgdcddchaaGreat
open Go.RowKit
set_option linter.unusedVariables false

set_option maxHeartbeats 1600000 in
theorem bodyFits_of (F : Ps) (d : Nat) (hd4 : d ≤ 4) (ih : 1 ≤ d → ∀ i sn b e, F.get i = some (sn, b, e) → FmP 44 b (d - 1) ∧ FmP 44 e (d - 1)) : FmP 44 F d := by
  intro v w hwf hl hs hr
  obtain ⟨ad, cap, rfl, hc, hm, hx⟩ := hr
  unfold maxLen at hm
  have HX := hide hx
  have IH := hide ih
  have HW := hide hwf
  have HS0 := hide hs
  clear hx ih hwf hs
  by_cases hd : 1 ≤ d
  · have dl : ((d : Int) == 0) = false := beq_eq_false_iff_ne.2 (by omega)
    by_cases hlen : 1 ≤ F.len ∧ F.len ≤ 8
    · have hN : Hid (Pl.bodyB F d = Pl.formF F d) := by show _ = _; simp [Pl.bodyB, hd, hlen]
      have hi0 : ((F.len : Int) == 0) = false := beq_eq_false_iff_ne.2 (by omega)
      have hi1 : ¬ (8 : Int) < (F.len : Int) := by omega
      go_enter Tryz.func44, Tryz.ntmps44
      go_wp2_with fail
      clear hi0 hi1 dl
      go_loopw [21] (fun iv wr => ∃ i : Nat, i ≤ F.len ∧ iv = .int .i64 i ∧ Hid (∀ j sn b e, j < i → F.get j = some (sn, b, e) → Pl.formS sn b e d = true) ∧ Hid (Below w.heap.size w wr)) (fun iv _ => F.len - (intOf iv).toNat)
      case atStart => exact ⟨0, by omega, rfl, hide (fun j _ _ _ hj => by omega), hide (Below.refl _ _)⟩
      case round =>
        obtain ⟨i, hi, rfl, HS, hB⟩ := hrel
        by_cases hlt : i < F.len
        · obtain ⟨g, off, rfl, _, hg, hfo⟩ := HX.out (by omega)
          obtain ⟨sn, b, e, hget⟩ := F.get_some i hlt
          obtain ⟨ve, vb, vl, hst⟩ := hfo.get hget
          obtain ⟨⟨d0, d1, d2, d3, d4, d5, d6, d7⟩, ⟨d8, q8⟩, ⟨d9, q9⟩, ⟨d10, q10⟩⟩ := hst.later hB.out hg
          obtain ⟨s1, s2, s3⟩ := HS0.out.get hget
          obtain ⟨x1, x2, x3⟩ := HW.out.get hget
          have hq : Hid (∀ W, Below wr.heap.size wr W → Calls Tryz.prog 65 #[snV sn ve vb vl, .int .i64 d] W fun e' w' => e' = .returned (.bool (Pl.formS sn b e d)) ∧ Below W.heap.size W w') := fun W hW => stepFits_of sn b e d hd hd4 (IH.out hd i sn b e hget).1 (IH.out hd i sn b e hget).2 s1 s2 s3 x1 x2 x3 ve vb vl W (q8.later hW) (q9.later hW) (q10.later hW)
          have HG := hide hget
          obtain ⟨_, _, rfl, _, _, _⟩ := q8
          obtain ⟨_, _, rfl, _, _, _⟩ := q9
          obtain ⟨_, _, rfl, _, _, _⟩ := q10
          clear hfo hst hget s1 s2 s3 x1 x2 x3
          have hii : (i : Int) < (F.len : Int) := by omega
          go_wp2_with fail
          refine (hq.out _ (by first | exact Below.refl _ _ | exact (Below.refl _ _).alloc (Nat.le_refl _) _)).mono ?_
          rintro e' w4 ⟨rfl, hB4⟩
          have HB4 : Hid (Below w.heap.size w w4) := by
            first
              | exact hB.out.trans (hB4.mono hB.out.size)
              | exact (hB.out.alloc hB.out.size _).trans (hB4.mono (by have := hB.out.size; simp; omega))
          clear hq d0 d1 d2 d3 d4 d5 d6 d7 d8 d9 d10 hB4
          cases hon : Pl.formS sn b e d
          · have hall : Hid (Pl.formF F d = false) := Pl.formF_not F d i sn b e HG.out hon
            go_wp2
            go_ret
            exact ⟨by rw [hN.out, hall.out]; rfl, HB4.out⟩
          · have HS' : Hid (∀ j sn b e, j < i + 1 → F.get j = some (sn, b, e) → Pl.formS sn b e d = true) := by
              refine hide fun j sn' b' e' hj hk => ?_
              by_cases hji : j = i
              · subst hji
                rw [HG.out] at hk
                cases hk
                exact hon
              · exact HS.out j sn' b' e' (by omega) hk
            clear hon
            go_wp2
            go_roundw
            case rel => exact ⟨i + 1, by omega, by go_num, HS', HB4⟩
            case measure => simp [intOf]; omega
        · have hie : i = F.len := by omega
          have hall : Hid (Pl.formF F d = true) := hide (Pl.formF_all F d fun j sn b e hk => HS.out j sn b e (by have := Ps.get_lt hk; omega) hk)
          go_wp2
          go_ret
          exact ⟨by rw [hN.out, hall.out]; rfl, hB.out⟩
    · have hN : Hid (Pl.bodyB F d = false) := by
        show _ = _
        by_cases h1 : 1 ≤ F.len
        · have h2 : ¬ F.len ≤ 8 := fun h => hlen ⟨h1, h⟩
          simp [Pl.bodyB, h2]
        · simp [Pl.bodyB, h1]
      by_cases h0 : F.len = 0
      · have hi0 : ((F.len : Int) == 0) = true := by simp [h0]
        clear h0 hlen
        go_enter Tryz.func44, Tryz.ntmps44
        go_wp2
        go_ret
        exact ⟨by rw [hN.out]; rfl, Below.refl _ _⟩
      · have hi0 : ((F.len : Int) == 0) = false := by simp [h0]
        have hi1 : (8 : Int) < (F.len : Int) := by omega
        clear h0 hlen
        go_enter Tryz.func44, Tryz.ntmps44
        go_wp2
        go_ret
        exact ⟨by rw [hN.out]; rfl, Below.refl _ _⟩
  · have hd0 : d = 0 := by omega
    subst hd0
    have hN : Hid (Pl.bodyB F 0 = false) := by show _ = _; simp [Pl.bodyB]
    go_enter Tryz.func44, Tryz.ntmps44
    go_wp2
    go_ret
    exact ⟨by rw [hN.out]; rfl, Below.refl _ _⟩
theorem bodyFits_any : ∀ (d : Nat) (F : Ps), d ≤ 4 → FmP 44 F d
  | 0, F, h => bodyFits_of F 0 h fun h1 => by omega
  | d + 1, F, h => bodyFits_of F (d + 1) h fun _ i sn b e _ => ⟨bodyFits_any d b (by omega), bodyFits_any d e (by omega)⟩
end Go.Proofs.YtnikomgdcddchaaGreat
