/- Two copies of steps held against each other. -/
import Derived.Test.YtckdpdlkjgjadaaPTo
import Derived.Test.YtckdpdlkjgjadaaEqX
namespace Go.Proofs.Ytckdpdlkjgjadaa
open Go.RowKit
set_option linter.unusedVariables false

def PEqP (F : Ps) : Prop := ∀ (va vb : Value) (w : World), F.len ≤ 1048576 → F.Sm → PRow 0 w F va → PRow 0 w F vb → Calls Try.prog 47 #[va, vb] w fun e w' => e = .returned (.bool true) ∧ Below w.heap.size w w'

set_option maxHeartbeats 1600000 in
theorem eqStep_of (sn : Sn) (b l : Ps) (hkb : PEqP b) (hkl : PEqP l) (he1 : sn.ek.len ≤ 1048576) (he2 : sn.ek.Sm) (hb1 : b.len ≤ 1048576) (hb2 : b.Sm) (hl1 : l.len ≤ 1048576) (hl2 : l.Sm) (ve vb vl ue ub ul : Value) (w : World) (hre : RowAt 0 w sn.ek ve) (hrb : PRow 0 w b vb) (hrl : PRow 0 w l vl) (hue : RowAt 0 w sn.ek ue) (hub : PRow 0 w b ub) (hul : PRow 0 w l ul) :
    Calls Try.prog 71 #[snV sn ve vb vl, snV sn ue ub ul] w fun e w' => e = .returned (.bool true) ∧ Below w.heap.size w w' := by
  have hqe : Hid (∀ W, Below w.heap.size w W → Calls Try.prog 11 #[ndV sn.ex ve, ndV sn.ex ue] W fun e w' => e = .returned (.bool true) ∧ Below W.heap.size W w') := fun W hW => eqExpr_of sn.ex sn.ek (eqExprS_any _) he1 he2 ve ue W (hre.later hW) (hue.later hW)
  have hqb : Hid (∀ W, Below w.heap.size w W → Calls Try.prog 47 #[vb, ub] W fun e w' => e = .returned (.bool true) ∧ Below W.heap.size W w') := fun W hW => hkb vb ub W hb1 hb2 (hrb.later hW) (hub.later hW)
  have hql : Hid (∀ W, Below w.heap.size w W → Calls Try.prog 47 #[vl, ul] W fun e w' => e = .returned (.bool true) ∧ Below W.heap.size W w') := fun W hW => hkl vl ul W hl1 hl2 (hrl.later hW) (hul.later hW)
  clear hkb hkl he1 he2 hb1 hb2 hl1 hl2
  obtain ⟨_, _, rfl, _, _, _⟩ := hre
  obtain ⟨_, _, rfl, _, _, _⟩ := hrb
  obtain ⟨_, _, rfl, _, _, _⟩ := hrl
  obtain ⟨_, _, rfl, _, _, _⟩ := hue
  obtain ⟨_, _, rfl, _, _, _⟩ := hub
  obtain ⟨_, _, rfl, _, _, _⟩ := hul
  obtain ⟨k, nm, wh, ⟨xk, xvk, xvn, xvt, xnm⟩, ek⟩ := sn
  simp only at *
  generalize ek.len = el at *
  generalize b.len = bl at *
  generalize l.len = ll at *
  go_enter Try.func71, Try.ntmps71
  go_wp2_with fail
  refine (hqe.out _ (((Below.refl _ _).alloc (Nat.le_refl _) _).alloc (by simp) _)).mono ?_
  rintro e w1 ⟨rfl, hB1⟩
  obtain ⟨b0, b1, HB1⟩ := boxes2 hB1
  clear hB1 hqe
  have a9 := cell_of_block b0 9
  have a10 := cell_of_block b0 10
  have c9 := cell_of_block b1 9
  have c10 := cell_of_block b1 10
  simp only [List.getElem?_toArray, List.getElem?_cons_zero, List.getElem?_cons_succ] at a9 a10 c9 c10
  have hs1 : w.heap.size + 1 < w1.heap.size := (Array.getElem?_eq_some_iff.1 b1).1
  have HBB := hide HB1
  clear b0 b1 HB1
  go_wp2_with fail
  refine (hqb.out _ HBB.out).mono ?_
  rintro e w2 ⟨rfl, hB2⟩
  have e9 := (hB2.cell (p := ⟨w.heap.size, 10, none⟩) (by simp only; omega)).trans a10
  have e10 := (hB2.cell (p := ⟨w.heap.size + 1, 10, none⟩) (by simp only; omega)).trans c10
  have HB2 : Hid (Below w.heap.size w w2) := HBB.out.trans (hB2.mono HBB.out.size)
  clear hB2 hqb a9 a10 c9 c10 HBB
  go_wp2_with fail
  refine (hql.out _ HB2.out).mono ?_
  rintro e w3 ⟨rfl, hB3⟩
  go_wp2
  go_ret
  exact ⟨rfl, HB2.out.trans (hB3.mono HB2.out.size)⟩

set_option maxHeartbeats 1600000 in
theorem eqStepS_of (F : Ps) (ih : ∀ i sn b e, F.get i = some (sn, b, e) → PEqP b ∧ PEqP e) : PEqP F := by
  intro va vb w hN hsm ha hb
  obtain ⟨aa, ca, rfl, hca, hma, hxa⟩ := ha
  obtain ⟨ab, cb, rfl, hcb, hmb, hxb⟩ := hb
  unfold maxLen at hma hmb
  have HXA := hide hxa
  have HXB := hide hxb
  have IH := hide ih
  have HW := hide hsm
  clear hxa hxb ih hsm
  go_enter Try.func47, Try.ntmps47
  go_wp2_with fail
  go_loopw [5] (fun iv wr => ∃ i : Nat, i ≤ F.len ∧ iv = .int .i64 i ∧ Hid (Below w.heap.size w wr)) (fun iv _ => F.len - (intOf iv).toNat)
  case atStart => exact ⟨0, by omega, rfl, hide (Below.refl _ _)⟩
  case round =>
    obtain ⟨i, hi, rfl, hB⟩ := hrel
    by_cases hlt : i < F.len
    · obtain ⟨ga, oa, rfl, _, hga, hfa⟩ := HXA.out (by omega)
      obtain ⟨gb, ob, rfl, _, hgb, hfb⟩ := HXB.out (by omega)
      obtain ⟨sn, b, e, hget⟩ := F.get_some i hlt
      obtain ⟨ve, vb, vl, hsa⟩ := hfa.get hget
      obtain ⟨ue, ub, ul, hsb⟩ := hfb.get hget
      obtain ⟨⟨d0, d1, d2, d3, d4, d5, d6, d7⟩, ⟨d8, q8⟩, ⟨d9, q9⟩, ⟨d10, q10⟩⟩ := hsa.later hB.out hga
      obtain ⟨⟨f0, f1, f2, f3, f4, f5, f6, f7⟩, ⟨f8, p8⟩, ⟨f9, p9⟩, ⟨f10, p10⟩⟩ := hsb.later hB.out hgb
      obtain ⟨⟨s1, s2⟩, ⟨s3, s4⟩, ⟨s5, s6⟩⟩ := HW.out.get hget
      have hq : Hid (∀ W, Below wr.heap.size wr W → Calls Try.prog 71 #[snV sn ve vb vl, snV sn ue ub ul] W fun e w' => e = .returned (.bool true) ∧ Below W.heap.size W w') := fun W hW => eqStep_of sn b e (IH.out i sn b e hget).1 (IH.out i sn b e hget).2 s1 s2 s3 s4 s5 s6 ve vb vl ue ub ul W (q8.later hW) (q9.later hW) (q10.later hW) (p8.later hW) (p9.later hW) (p10.later hW)
      obtain ⟨_, _, rfl, _, _, _⟩ := q8
      obtain ⟨_, _, rfl, _, _, _⟩ := q9
      obtain ⟨_, _, rfl, _, _, _⟩ := q10
      obtain ⟨_, _, rfl, _, _, _⟩ := p8
      obtain ⟨_, _, rfl, _, _, _⟩ := p9
      obtain ⟨_, _, rfl, _, _, _⟩ := p10
      clear hfa hfb hsa hsb hget s2 s4 s6
      have hii : (i : Int) < (F.len : Int) := by omega
      go_wp2_with fail
      go_region_with (go_at_call 71; refine (hq.out _ (by first | exact Below.refl _ _ | exact (Below.refl _ _).drew | exact below_drewN (Below.refl _ _) _)).mono ?_; rintro e w3 ⟨rfl, hB3⟩)
      all_goals
        clear d0 d1 d2 d3 d4 d5 d6 d7 d8 d9 d10 f0 f1 f2 f3 f4 f5 f6 f7 f8 f9 f10 hq
        go_wp2
        go_roundw
        case rel => exact ⟨i + 1, by omega, by go_num, hide (hB.out.drew.trans (hB3.mono hB.out.size))⟩
        case measure => simp [intOf]; omega
    · go_wp2
      go_ret
      exact ⟨rfl, hB.out⟩
theorem eqStepS_fuel : ∀ (n : Nat) (F : Ps), F.nodes ≤ n → PEqP F
  | 0, F, h => eqStepS_of F fun i sn b e hk => by have := F.get_nodes i sn b e hk; omega
  | n + 1, F, h => eqStepS_of F fun i sn b e hk => ⟨eqStepS_fuel n b (by have := F.get_nodes i sn b e hk; omega), eqStepS_fuel n e (by have := F.get_nodes i sn b e hk; omega)⟩
theorem eqStepS_any (F : Ps) : PEqP F := eqStepS_fuel F.nodes F (Nat.le_refl _)
end Go.Proofs.Ytckdpdlkjgjadaa
