/- Joined: Ok2 Ok2b Ok2c Ok2n Ok2f. -/
import Derived.Test.YtamkncfdfaejjaaGreatDoorOk1f
import Derived.Test.YtamkncfdfaejjaaGreatDoorVal5
import Derived.Test.YtamkncfdfaejjaaGreatDoorName2
/- Whether an expression is ok, as the program has it: values. -/
namespace Go.Proofs.YtamkncfdfaejjaaGreatDoor
open Go.RowKit
set_option linter.unusedVariables false
theorem boxD {B n : Nat} {w w1 : World} {C : Array Value} {T : TypeId} (hb : Below B ((w.alloc (.cells C T)).drewN n) w1) (h : w.heap.size < B) (i : Nat) : w1.cell? ⟨w.heap.size, i, none⟩ = C[i]? := by
  rw [hb.cell (p := ⟨w.heap.size, i, none⟩) h]
  simp
set_option maxHeartbeats 1600000 in
theorem exprFits_val (d : Nat) (hd : d ≤ 5) (hd1 : 1 ≤ d) (ih : OkP 49 (d - 1)) (vk vn : Int) (vt nm : ByteArray) (k : Fo) (v : Value) (w : World) (ht : vt.size ≤ maxLen) (hn : nm.size ≤ maxLen) (hbv : Pl.okB vk vn vt = true) (hbn : nm.toList.isEmpty = true) (hab : ((k.len : Int) == Pl.arity 1) = true) (hwf : k.Wf) (hl : k.len ≤ 1048576) (hs : k.Sm) (hr : RowAt 0 w k v) :
    Calls Tryz.prog 49 #[ndV ⟨1, vk, vn, vt, nm⟩ v, .int .i64 d] w fun e w' => e = .returned (.bool (Pl.okN ⟨1, vk, vn, vt, nm⟩ k d)) ∧ Below w.heap.size w w' := by
  have hv := hide (implValueOk_any vk vn vt ht)
  rw [hbv] at hv
  have har := hide (exprParts_any 1)
  have hval : Hid (Pl.valB ⟨1, vk, vn, vt, nm⟩ = true) := by show _ = _; simp [Pl.valB, hbv]
  have hnmb : Hid (Pl.nmB ⟨1, vk, vn, vt, nm⟩ = true) := by show _ = _; simp [Pl.nmB, hbn]
  obtain ⟨ad, cap, rfl, hc, hm, hx⟩ := hr
  have HX := hide hx
  have IH := hide ih
  clear hx ih hbv
  unfold maxLen at hm
  have dl : ((d : Int) == 0) = false := beq_eq_false_iff_ne.2 (by omega)
  · have hN : Hid (Pl.okN ⟨1, vk, vn, vt, nm⟩ k d = Pl.okF k (d - 1)) := by show _ = _; simp [Pl.okN, hab, hval.out, hnmb.out, hd1]
    have hne : ((k.len : Int) != Pl.arity 1) = false := by simp only [bne, hab, Bool.not_true]
    clear hab
    go_enter Tryz.func49, Tryz.ntmps49
    go_wp2_with fail
    go_quiet ((go_at_call 69; exact Calls.quiet_of_same (har.out _)))
    go_wp2_with fail
    refine (hv.out _).mono ?_
    rintro e w1 ⟨rfl, hB1⟩
    have c0 : w1.cell? ⟨w.heap.size, 0, none⟩ = some (.int .i64 1) := boxD hB1 (by simp) 0
    have c5 : w1.cell? ⟨w.heap.size, 5, none⟩ = some (.slice ad k.len cap) := boxD hB1 (by simp) 5
    have hsz : w.heap.size < w1.heap.size := by have := hB1.size; simp at this; omega
    have HB : Hid (Below w.heap.size w w1) := (below_drewN ((Below.refl _ _).alloc (Nat.le_refl _) _) _).trans (hB1.mono (by simp))
    clear hB1 hv har
    go_wp2_with fail
    clear hne c0 c5 hbn hval hnmb
    go_loopw [55] (fun iv wr => ∃ i : Nat, i ≤ k.len ∧ iv = .int .i64 i ∧ Hid (∀ j nd k', j < i → k.get j = some (nd, k') → Pl.okN nd k' (d - 1) = true) ∧ Hid (Below w.heap.size w wr)) (fun iv _ => k.len - (intOf iv).toNat)
    case atStart => exact ⟨0, by omega, rfl, hide (fun j _ _ hj => by omega), HB⟩
    case round =>
      obtain ⟨i, hi, rfl, HS, hB⟩ := hrel
      by_cases hlt : i < k.len
      · obtain ⟨g, off, rfl, _, hg, hfo⟩ := HX.out (by omega)
        obtain ⟨nd, k', hget⟩ := k.get_some i hlt
        obtain ⟨v, hnd⟩ := hfo.get hget
        obtain ⟨d0, d1, d2, d3, d4, d5, hrow⟩ := hnd.later hB.out hg
        obtain ⟨w2, w3⟩ := hs.get hget
        obtain ⟨x1, x2, x3⟩ := hwf.get hget
        have hq : Hid (∀ W, Below wr.heap.size wr W → Calls Tryz.prog 49 #[ndV nd v, .int .i64 ((d : Int) - 1)] W fun e w' => e = .returned (.bool (Pl.okN nd k' (d - 1))) ∧ Below W.heap.size W w') := by
          refine hide fun W hW => ?_
          rw [show (d : Int) - 1 = ((d - 1 : Nat) : Int) by omega]
          exact IH.out nd k' v W x1 x2 x3 w2 w3 (hrow.later hW)
        have HG := hide hget
        clear hfo hnd hget
        obtain ⟨ad', cap', rfl, _, _, _⟩ := hrow
        have hii : (i : Int) < (k.len : Int) := by omega
        generalize k'.len = kl at *
        go_wp2_with fail
        refine (hq.out _ ((Below.refl _ _).alloc (Nat.le_refl _) _)).mono ?_
        rintro e w4 ⟨rfl, hB4⟩
        have HB4 : Hid (Below w.heap.size w w4) := (hB.out.alloc hB.out.size _).trans (hB4.mono (by have := hB.out.size; simp; omega))
        clear hq d0 d1 d2 d3 d4 d5 hB4
        cases hon : Pl.okN nd k' (d - 1)
        · have hall : Hid (Pl.okF k (d - 1) = false) := Pl.okF_not k (d - 1) i nd k' HG.out hon
          go_wp2
          go_ret
          exact ⟨by rw [hN.out, hall.out]; rfl, HB4.out⟩
        · have HS' : Hid (∀ j nd k', j < i + 1 → k.get j = some (nd, k') → Pl.okN nd k' (d - 1) = true) := by
            refine hide fun j nd' k'' hj hk => ?_
            by_cases hji : j = i
            · subst hji
              rw [HG.out] at hk
              cases hk
              exact hon
            · exact HS.out j nd' k'' (by omega) hk
          clear hon
          go_wp2
          go_roundw
          case rel => exact ⟨i + 1, by omega, by go_num, HS', HB4⟩
          case measure => simp [intOf]; omega
      · have hie : i = k.len := by omega
        have hall : Hid (Pl.okF k (d - 1) = true) := by
          refine hide (Pl.okF_all k (d - 1) fun j nd k' hk => HS.out j nd k' ?_ hk)
          apply Classical.byContradiction
          intro hx
          rw [Fo.get_none k j (by omega)] at hk
          cases hk
        go_wp2
        go_ret
        exact ⟨by rw [hN.out, hall.out]; rfl, hB.out⟩
end Go.Proofs.YtamkncfdfaejjaaGreatDoor

/- Whether an expression is ok, as the program has it: words that are names. -/
namespace Go.Proofs.YtamkncfdfaejjaaGreatDoor
open Go.RowKit
set_option linter.unusedVariables false
set_option maxHeartbeats 1600000 in
theorem exprFits_var (d : Nat) (hd : d ≤ 5) (hd1 : 1 ≤ d) (ih : OkP 49 (d - 1)) (vt nm : ByteArray) (k : Fo) (v : Value) (w : World) (ht : vt.size ≤ maxLen) (hn : nm.size ≤ maxLen) (hvt : vt.toList.isEmpty = true) (hbn : Pl.nameB nm = true) (hab : ((k.len : Int) == Pl.arity 2) = true) (hwf : k.Wf) (hl : k.len ≤ 1048576) (hs : k.Sm) (hr : RowAt 0 w k v) :
    Calls Tryz.prog 49 #[ndV ⟨2, 0, 0, vt, nm⟩ v, .int .i64 d] w fun e w' => e = .returned (.bool (Pl.okN ⟨2, 0, 0, vt, nm⟩ k d)) ∧ Below w.heap.size w w' := by
  have hv := hide (implValueOk_any 0 0 vt ht)
  rw [show Pl.okB 0 0 vt = true by simp [Pl.okB, hvt]] at hv
  have hw := hide (implNameOk_any nm hn)
  rw [hbn] at hw
  have har := hide (exprParts_any 2)
  have hval : Hid (Pl.valB ⟨2, 0, 0, vt, nm⟩ = true) := by show _ = _; simp only [Pl.valB, hvt]; rfl
  have hnmb : Hid (Pl.nmB ⟨2, 0, 0, vt, nm⟩ = true) := by show _ = _; simp only [Pl.nmB, hbn]; rfl
  obtain ⟨ad, cap, rfl, hc, hm, hx⟩ := hr
  have HX := hide hx
  have IH := hide ih
  clear hx ih hbn
  unfold maxLen at hm
  have dl : ((d : Int) == 0) = false := beq_eq_false_iff_ne.2 (by omega)
  · have hN : Hid (Pl.okN ⟨2, 0, 0, vt, nm⟩ k d = Pl.okF k (d - 1)) := by show _ = _; simp [Pl.okN, hab, hval.out, hnmb.out, hd1]
    have hne : ((k.len : Int) != Pl.arity 2) = false := by simp only [bne, hab, Bool.not_true]
    clear hab
    go_enter Tryz.func49, Tryz.ntmps49
    go_wp2_with fail
    go_quiet ((go_at_call 69; exact Calls.quiet_of_same (har.out _)))
    go_wp2_with fail
    refine (hw.out _).mono ?_
    rintro e w0 ⟨rfl, rfl⟩
    clear hw
    go_wp2_with fail
    refine (hv.out _).mono ?_
    rintro e w1 ⟨rfl, hB1⟩
    have c0 : w1.cell? ⟨w.heap.size, 0, none⟩ = some (.int .i64 2) := boxD hB1 (by simp) 0
    have c5 : w1.cell? ⟨w.heap.size, 5, none⟩ = some (.slice ad k.len cap) := boxD hB1 (by simp) 5
    have hsz : w.heap.size < w1.heap.size := by have := hB1.size; simp at this; omega
    have HB : Hid (Below w.heap.size w w1) := (below_drewN ((Below.refl _ _).alloc (Nat.le_refl _) _) _).trans (hB1.mono (by simp))
    clear hB1 hv har
    go_wp2_with fail
    clear hne c0 c5 hvt hval hnmb
    go_loopw [55] (fun iv wr => ∃ i : Nat, i ≤ k.len ∧ iv = .int .i64 i ∧ Hid (∀ j nd k', j < i → k.get j = some (nd, k') → Pl.okN nd k' (d - 1) = true) ∧ Hid (Below w.heap.size w wr)) (fun iv _ => k.len - (intOf iv).toNat)
    case atStart => exact ⟨0, by omega, rfl, hide (fun j _ _ hj => by omega), HB⟩
    case round =>
      obtain ⟨i, hi, rfl, HS, hB⟩ := hrel
      by_cases hlt : i < k.len
      · obtain ⟨g, off, rfl, _, hg, hfo⟩ := HX.out (by omega)
        obtain ⟨nd, k', hget⟩ := k.get_some i hlt
        obtain ⟨v, hnd⟩ := hfo.get hget
        obtain ⟨d0, d1, d2, d3, d4, d5, hrow⟩ := hnd.later hB.out hg
        obtain ⟨w2, w3⟩ := hs.get hget
        obtain ⟨x1, x2, x3⟩ := hwf.get hget
        have hq : Hid (∀ W, Below wr.heap.size wr W → Calls Tryz.prog 49 #[ndV nd v, .int .i64 ((d : Int) - 1)] W fun e w' => e = .returned (.bool (Pl.okN nd k' (d - 1))) ∧ Below W.heap.size W w') := by
          refine hide fun W hW => ?_
          rw [show (d : Int) - 1 = ((d - 1 : Nat) : Int) by omega]
          exact IH.out nd k' v W x1 x2 x3 w2 w3 (hrow.later hW)
        have HG := hide hget
        clear hfo hnd hget
        obtain ⟨ad', cap', rfl, _, _, _⟩ := hrow
        have hii : (i : Int) < (k.len : Int) := by omega
        generalize k'.len = kl at *
        go_wp2_with fail
        refine (hq.out _ ((Below.refl _ _).alloc (Nat.le_refl _) _)).mono ?_
        rintro e w4 ⟨rfl, hB4⟩
        have HB4 : Hid (Below w.heap.size w w4) := (hB.out.alloc hB.out.size _).trans (hB4.mono (by have := hB.out.size; simp; omega))
        clear hq d0 d1 d2 d3 d4 d5 hB4
        cases hon : Pl.okN nd k' (d - 1)
        · have hall : Hid (Pl.okF k (d - 1) = false) := Pl.okF_not k (d - 1) i nd k' HG.out hon
          go_wp2
          go_ret
          exact ⟨by rw [hN.out, hall.out]; rfl, HB4.out⟩
        · have HS' : Hid (∀ j nd k', j < i + 1 → k.get j = some (nd, k') → Pl.okN nd k' (d - 1) = true) := by
            refine hide fun j nd' k'' hj hk => ?_
            by_cases hji : j = i
            · subst hji
              rw [HG.out] at hk
              cases hk
              exact hon
            · exact HS.out j nd' k'' (by omega) hk
          clear hon
          go_wp2
          go_roundw
          case rel => exact ⟨i + 1, by omega, by go_num, HS', HB4⟩
          case measure => simp [intOf]; omega
      · have hie : i = k.len := by omega
        have hall : Hid (Pl.okF k (d - 1) = true) := by
          refine hide (Pl.okF_all k (d - 1) fun j nd k' hk => HS.out j nd k' ?_ hk)
          apply Classical.byContradiction
          intro hx
          rw [Fo.get_none k j (by omega)] at hk
          cases hk
        go_wp2
        go_ret
        exact ⟨by rw [hN.out, hall.out]; rfl, hB.out⟩
end Go.Proofs.YtamkncfdfaejjaaGreatDoor

/- Whether an expression is ok, as the program has it: the other kinds. -/
namespace Go.Proofs.YtamkncfdfaejjaaGreatDoor
open Go.RowKit
set_option linter.unusedVariables false
set_option maxHeartbeats 1600000 in
theorem exprFits_oth (d : Nat) (hd : d ≤ 5) (hd1 : 1 ≤ d) (ih : OkP 49 (d - 1)) (nk : Int) (n1 : ¬ nk = 1) (n2 : ¬ nk = 2) (vt nm : ByteArray) (k : Fo) (v : Value) (w : World) (ht : vt.size ≤ maxLen) (hn : nm.size ≤ maxLen) (hvt : vt.toList.isEmpty = true) (hbn : nm.toList.isEmpty = true) (hab : ((k.len : Int) == Pl.arity nk) = true) (hwf : k.Wf) (hl : k.len ≤ 1048576) (hs : k.Sm) (hr : RowAt 0 w k v) :
    Calls Tryz.prog 49 #[ndV ⟨nk, 0, 0, vt, nm⟩ v, .int .i64 d] w fun e w' => e = .returned (.bool (Pl.okN ⟨nk, 0, 0, vt, nm⟩ k d)) ∧ Below w.heap.size w w' := by
  have k1 : (nk == 1) = false := by simp [n1]
  have k2 : (nk == 2) = false := by simp [n2]
  have m1 : (nk != 1) = true := by simp [n1]
  have m2 : (nk != 2) = true := by simp [n2]
  have hv := hide (implValueOk_any 0 0 vt ht)
  rw [show Pl.okB 0 0 vt = true by simp [Pl.okB, hvt]] at hv
  have har := hide (exprParts_any nk)
  have hval : Hid (Pl.valB ⟨nk, 0, 0, vt, nm⟩ = true) := by show _ = _; simp only [Pl.valB, n1, hvt, if_false]; rfl
  have hnmb : Hid (Pl.nmB ⟨nk, 0, 0, vt, nm⟩ = true) := by show _ = _; simp only [Pl.nmB, n2, hbn, if_false]
  obtain ⟨ad, cap, rfl, hc, hm, hx⟩ := hr
  have HX := hide hx
  have IH := hide ih
  clear hx ih n1 n2
  unfold maxLen at hm
  have dl : ((d : Int) == 0) = false := beq_eq_false_iff_ne.2 (by omega)
  · have hN : Hid (Pl.okN ⟨nk, 0, 0, vt, nm⟩ k d = Pl.okF k (d - 1)) := by show _ = _; simp [Pl.okN, hab, hval.out, hnmb.out, hd1]
    have hne : ((k.len : Int) != Pl.arity nk) = false := by simp only [bne, hab, Bool.not_true]
    clear hab
    go_enter Tryz.func49, Tryz.ntmps49
    go_wp2_with fail
    go_quiet ((go_at_call 69; exact Calls.quiet_of_same (har.out _)))
    go_wp2_with fail
    refine (hv.out _).mono ?_
    rintro e w1 ⟨rfl, hB1⟩
    have c0 : w1.cell? ⟨w.heap.size, 0, none⟩ = some (.int .i64 nk) := boxD hB1 (by simp) 0
    have c5 : w1.cell? ⟨w.heap.size, 5, none⟩ = some (.slice ad k.len cap) := boxD hB1 (by simp) 5
    have hsz : w.heap.size < w1.heap.size := by have := hB1.size; simp at this; omega
    have HB : Hid (Below w.heap.size w w1) := (below_drewN ((Below.refl _ _).alloc (Nat.le_refl _) _) _).trans (hB1.mono (by simp))
    clear hB1 hv har
    go_wp2_with fail
    clear hne c0 c5 hvt hbn hval hnmb k1 k2 m1 m2
    go_loopw [55] (fun iv wr => ∃ i : Nat, i ≤ k.len ∧ iv = .int .i64 i ∧ Hid (∀ j nd k', j < i → k.get j = some (nd, k') → Pl.okN nd k' (d - 1) = true) ∧ Hid (Below w.heap.size w wr)) (fun iv _ => k.len - (intOf iv).toNat)
    case atStart => exact ⟨0, by omega, rfl, hide (fun j _ _ hj => by omega), HB⟩
    case round =>
      obtain ⟨i, hi, rfl, HS, hB⟩ := hrel
      by_cases hlt : i < k.len
      · obtain ⟨g, off, rfl, _, hg, hfo⟩ := HX.out (by omega)
        obtain ⟨nd, k', hget⟩ := k.get_some i hlt
        obtain ⟨v, hnd⟩ := hfo.get hget
        obtain ⟨d0, d1, d2, d3, d4, d5, hrow⟩ := hnd.later hB.out hg
        obtain ⟨w2, w3⟩ := hs.get hget
        obtain ⟨x1, x2, x3⟩ := hwf.get hget
        have hq : Hid (∀ W, Below wr.heap.size wr W → Calls Tryz.prog 49 #[ndV nd v, .int .i64 ((d : Int) - 1)] W fun e w' => e = .returned (.bool (Pl.okN nd k' (d - 1))) ∧ Below W.heap.size W w') := by
          refine hide fun W hW => ?_
          rw [show (d : Int) - 1 = ((d - 1 : Nat) : Int) by omega]
          exact IH.out nd k' v W x1 x2 x3 w2 w3 (hrow.later hW)
        have HG := hide hget
        clear hfo hnd hget
        obtain ⟨ad', cap', rfl, _, _, _⟩ := hrow
        have hii : (i : Int) < (k.len : Int) := by omega
        generalize k'.len = kl at *
        go_wp2_with fail
        refine (hq.out _ ((Below.refl _ _).alloc (Nat.le_refl _) _)).mono ?_
        rintro e w4 ⟨rfl, hB4⟩
        have HB4 : Hid (Below w.heap.size w w4) := (hB.out.alloc hB.out.size _).trans (hB4.mono (by have := hB.out.size; simp; omega))
        clear hq d0 d1 d2 d3 d4 d5 hB4
        cases hon : Pl.okN nd k' (d - 1)
        · have hall : Hid (Pl.okF k (d - 1) = false) := Pl.okF_not k (d - 1) i nd k' HG.out hon
          go_wp2
          go_ret
          exact ⟨by rw [hN.out, hall.out]; rfl, HB4.out⟩
        · have HS' : Hid (∀ j nd k', j < i + 1 → k.get j = some (nd, k') → Pl.okN nd k' (d - 1) = true) := by
            refine hide fun j nd' k'' hj hk => ?_
            by_cases hji : j = i
            · subst hji
              rw [HG.out] at hk
              cases hk
              exact hon
            · exact HS.out j nd' k'' (by omega) hk
          clear hon
          go_wp2
          go_roundw
          case rel => exact ⟨i + 1, by omega, by go_num, HS', HB4⟩
          case measure => simp [intOf]; omega
      · have hie : i = k.len := by omega
        have hall : Hid (Pl.okF k (d - 1) = true) := by
          refine hide (Pl.okF_all k (d - 1) fun j nd k' hk => HS.out j nd k' ?_ hk)
          apply Classical.byContradiction
          intro hx
          rw [Fo.get_none k j (by omega)] at hk
          cases hk
        go_wp2
        go_ret
        exact ⟨by rw [hN.out, hall.out]; rfl, hB.out⟩
end Go.Proofs.YtamkncfdfaejjaaGreatDoor

/- Whether an expression is ok, as the program has it: what is not. -/
namespace Go.Proofs.YtamkncfdfaejjaaGreatDoor
open Go.RowKit
set_option linter.unusedVariables false

abbrev FitsNo (nd : Nd) (v : Value) (d : Nat) (w : World) : Prop := Calls Tryz.prog 49 #[ndV nd v, .int .i64 d] w fun e w' => e = .returned (.bool false) ∧ Below w.heap.size w w'

set_option maxHeartbeats 800000 in
theorem exprFits_deep (nd : Nd) (v : Value) (w : World) : FitsNo nd v 0 w := by
  obtain ⟨nk, vk, vn, vt, nm⟩ := nd
  go_enter Tryz.func49, Tryz.ntmps49
  go_wp2_with fail
  go_quiet (fail)
  go_wp2
  go_ret
  exact ⟨rfl, below_drewN ((Below.refl _ _).alloc (Nat.le_refl _) _) _⟩

set_option maxHeartbeats 800000 in
theorem exprFits_parts (d : Nat) (hd1 : 1 ≤ d) (hd : d ≤ 5) (nd : Nd) (n : Nat) (ad : Option Addr) (cap : Nat) (hl : n ≤ 1048576) (hab : ((n : Int) == Pl.arity nd.k) = false) (w : World) : FitsNo nd (.slice ad n cap) d w := by
  obtain ⟨nk, vk, vn, vt, nm⟩ := nd
  have har := hide (exprParts_any nk)
  have dl : ((d : Int) == 0) = false := beq_eq_false_iff_ne.2 (by omega)
  have hne : ((n : Int) != Pl.arity nk) = true := by simp only [bne]; rw [hab]; rfl
  clear hab
  go_enter Tryz.func49, Tryz.ntmps49
  go_wp2_with fail
  go_quiet ((go_at_call 69; exact Calls.quiet_of_same (har.out _)))
  go_wp2
  go_ret
  exact ⟨rfl, below_drewN ((Below.refl _ _).alloc (Nat.le_refl _) _) _⟩

set_option maxHeartbeats 1600000 in
theorem exprFits_none (d : Nat) (hd1 : 1 ≤ d) (hd : d ≤ 5) (nk vk vn : Int) (vt nm : ByteArray) (n : Nat) (ad : Option Addr) (cap : Nat) (hl : n ≤ 1048576) (hab : ((n : Int) == Pl.arity nk) = true) (n1 : ¬ nk = 1) (hz : NotNone vk vn vt) (w : World) : FitsNo ⟨nk, vk, vn, vt, nm⟩ (.slice ad n cap) d w := by
  have har := hide (exprParts_any nk)
  have dl : ((d : Int) == 0) = false := beq_eq_false_iff_ne.2 (by omega)
  have hne : ((n : Int) != Pl.arity nk) = false := by simp only [bne]; rw [hab]; rfl
  have m1 : (nk != 1) = true := by simp [n1]
  clear hab n1
  rcases hz with hz | ⟨rfl, hz⟩ | ⟨rfl, rfl, hz⟩
  all_goals
    go_enter Tryz.func49, Tryz.ntmps49
    go_wp2_with fail
    go_quiet ((go_at_call 69; exact Calls.quiet_of_same (har.out _)))
    go_wp2
    go_ret
    exact ⟨rfl, below_drewN ((Below.refl _ _).alloc (Nat.le_refl _) _) _⟩

set_option maxHeartbeats 1600000 in
theorem exprFits_name1 (d : Nat) (hd1 : 1 ≤ d) (hd : d ≤ 5) (vk vn : Int) (vt nm : ByteArray) (n : Nat) (ad : Option Addr) (cap : Nat) (hl : n ≤ 1048576) (hab : ((n : Int) == Pl.arity 1) = true) (hbn : nm.toList.isEmpty = false) (w : World) : FitsNo ⟨1, vk, vn, vt, nm⟩ (.slice ad n cap) d w := by
  have har := hide (exprParts_any 1)
  have dl : ((d : Int) == 0) = false := beq_eq_false_iff_ne.2 (by omega)
  have hne : ((n : Int) != Pl.arity 1) = false := by simp only [bne]; rw [hab]; rfl
  clear hab
  go_enter Tryz.func49, Tryz.ntmps49
  go_wp2_with fail
  go_quiet ((go_at_call 69; exact Calls.quiet_of_same (har.out _)))
  go_wp2
  go_ret
  exact ⟨rfl, below_drewN ((Below.refl _ _).alloc (Nat.le_refl _) _) _⟩

set_option maxHeartbeats 1600000 in
theorem exprFits_nameo (d : Nat) (hd1 : 1 ≤ d) (hd : d ≤ 5) (nk : Int) (n1 : ¬ nk = 1) (n2 : ¬ nk = 2) (vt nm : ByteArray) (n : Nat) (ad : Option Addr) (cap : Nat) (hl : n ≤ 1048576) (hab : ((n : Int) == Pl.arity nk) = true) (hvt : vt.toList.isEmpty = true) (hbn : nm.toList.isEmpty = false) (w : World) : FitsNo ⟨nk, 0, 0, vt, nm⟩ (.slice ad n cap) d w := by
  have har := hide (exprParts_any nk)
  have dl : ((d : Int) == 0) = false := beq_eq_false_iff_ne.2 (by omega)
  have hne : ((n : Int) != Pl.arity nk) = false := by simp only [bne]; rw [hab]; rfl
  have m1 : (nk != 1) = true := by simp [n1]
  have m2 : (nk != 2) = true := by simp [n2]
  clear hab n1 n2
  go_enter Tryz.func49, Tryz.ntmps49
  go_wp2_with fail
  go_quiet ((go_at_call 69; exact Calls.quiet_of_same (har.out _)))
  go_wp2
  go_ret
  exact ⟨rfl, below_drewN ((Below.refl _ _).alloc (Nat.le_refl _) _) _⟩

set_option maxHeartbeats 1600000 in
theorem exprFits_word (d : Nat) (hd1 : 1 ≤ d) (hd : d ≤ 5) (vt nm : ByteArray) (hn : nm.size ≤ maxLen) (n : Nat) (ad : Option Addr) (cap : Nat) (hl : n ≤ 1048576) (hab : ((n : Int) == Pl.arity 2) = true) (hvt : vt.toList.isEmpty = true) (hbn : Pl.nameB nm = false) (w : World) : FitsNo ⟨2, 0, 0, vt, nm⟩ (.slice ad n cap) d w := by
  have har := hide (exprParts_any 2)
  have hw := hide (implNameOk_any nm hn)
  rw [hbn] at hw
  have dl : ((d : Int) == 0) = false := beq_eq_false_iff_ne.2 (by omega)
  have hne : ((n : Int) != Pl.arity 2) = false := by simp only [bne]; rw [hab]; rfl
  clear hab hbn
  go_enter Tryz.func49, Tryz.ntmps49
  go_wp2_with fail
  go_quiet ((go_at_call 69; exact Calls.quiet_of_same (har.out _)))
  go_wp2_with fail
  refine (hw.out _).mono ?_
  rintro e w0 ⟨rfl, rfl⟩
  go_wp2
  go_ret
  exact ⟨rfl, below_drewN ((Below.refl _ _).alloc (Nat.le_refl _) _) _⟩

set_option maxHeartbeats 1600000 in
theorem exprFits_value (d : Nat) (hd1 : 1 ≤ d) (hd : d ≤ 5) (vk vn : Int) (vt nm : ByteArray) (ht : vt.size ≤ maxLen) (n : Nat) (ad : Option Addr) (cap : Nat) (hl : n ≤ 1048576) (hab : ((n : Int) == Pl.arity 1) = true) (hbn : nm.toList.isEmpty = true) (hbv : Pl.okB vk vn vt = false) (w : World) : FitsNo ⟨1, vk, vn, vt, nm⟩ (.slice ad n cap) d w := by
  have har := hide (exprParts_any 1)
  have hv := hide (implValueOk_any vk vn vt ht)
  rw [hbv] at hv
  have dl : ((d : Int) == 0) = false := beq_eq_false_iff_ne.2 (by omega)
  have hne : ((n : Int) != Pl.arity 1) = false := by simp only [bne]; rw [hab]; rfl
  clear hab hbv
  go_enter Tryz.func49, Tryz.ntmps49
  go_wp2_with fail
  go_quiet ((go_at_call 69; exact Calls.quiet_of_same (har.out _)))
  go_wp2_with fail
  refine (hv.out _).mono ?_
  rintro e w1 ⟨rfl, hB1⟩
  go_wp2
  go_ret
  exact ⟨rfl, (below_drewN ((Below.refl _ _).alloc (Nat.le_refl _) _) _).trans (hB1.mono (by simp))⟩
end Go.Proofs.YtamkncfdfaejjaaGreatDoor

/- Whether an expression is ok, as the program has it: at every kind and depth. -/
namespace Go.Proofs.YtamkncfdfaejjaaGreatDoor
open Go.RowKit
set_option linter.unusedVariables false

theorem okN_parts_no {nd : Nd} (k : Fo) (d : Nat) (h : ((k.len : Int) == Pl.arity nd.k) = false) : Pl.okN nd k d = false := by
  simp only [Pl.okN, h, Bool.false_and, Bool.and_false]
theorem okN_value_no {nd : Nd} (k : Fo) (d : Nat) (h : Pl.valB nd = false) : Pl.okN nd k d = false := by
  simp only [Pl.okN, h, Bool.false_and, Bool.and_false]
theorem okN_nm_no {nd : Nd} (k : Fo) (d : Nat) (h : Pl.nmB nd = false) : Pl.okN nd k d = false := by
  simp only [Pl.okN, h, Bool.false_and, Bool.and_false]

theorem exprFits_step (d : Nat) (hd : d ≤ 5) (ih : 1 ≤ d → OkP 49 (d - 1)) : OkP 49 d := by
  intro nd k v w ht hn hwf hl hs hr
  by_cases hd1 : 1 ≤ d
  · have hr0 := hr
    obtain ⟨ad, cap, rfl, _, _, _⟩ := hr0
    cases hab : ((k.len : Int) == Pl.arity nd.k)
    · rw [okN_parts_no k d hab]
      exact exprFits_parts d hd1 hd nd k.len ad cap hl hab w
    · obtain ⟨nk, vk, vn, vt, nm⟩ := nd
      simp only at hab ht hn
      by_cases n1 : nk = 1
      · subst n1
        cases hbn : nm.toList.isEmpty
        · rw [okN_nm_no k d (by simp [Pl.nmB, hbn])]
          exact exprFits_name1 d hd1 hd vk vn vt nm k.len ad cap hl hab hbn w
        · cases hbv : Pl.okB vk vn vt
          · rw [okN_value_no k d (by simp [Pl.valB, hbv])]
            exact exprFits_value d hd1 hd vk vn vt nm ht k.len ad cap hl hab hbn hbv w
          · exact exprFits_val d hd hd1 (ih hd1) vk vn vt nm k _ w ht hn hbv hbn hab hwf hl hs hr
      · rcases notNone_or vk vn vt with hz | ⟨rfl, rfl, hvt⟩
        · rw [okN_val_no n1 hz]
          exact exprFits_none d hd1 hd nk vk vn vt nm k.len ad cap hl hab n1 hz w
        · by_cases n2 : nk = 2
          · subst n2
            cases hbn : Pl.nameB nm
            · rw [okN_nm_no k d (by simp [Pl.nmB, hbn])]
              exact exprFits_word d hd1 hd vt nm hn k.len ad cap hl hab hvt hbn w
            · exact exprFits_var d hd hd1 (ih hd1) vt nm k _ w ht hn hvt hbn hab hwf hl hs hr
          · cases hbn : nm.toList.isEmpty
            · rw [okN_nm_no k d (by simp [Pl.nmB, n2, hbn])]
              exact exprFits_nameo d hd1 hd nk n1 n2 vt nm k.len ad cap hl hab hvt hbn w
            · exact exprFits_oth d hd hd1 (ih hd1) nk n1 n2 vt nm k _ w ht hn hvt hbn hab hwf hl hs hr
  · have hd0 : d = 0 := by omega
    subst hd0
    rw [show Pl.okN nd k 0 = false by simp [Pl.okN]]
    exact exprFits_deep nd v w
theorem exprFits_any : ∀ (d : Nat), d ≤ 5 → OkP 49 d
  | 0, h => exprFits_step 0 h (fun h => by omega)
  | d + 1, h => exprFits_step (d + 1) h (fun _ => exprFits_any d (by omega))

set_option maxHeartbeats 400000 in
theorem implExprOk_any (nd : Nd) (k : Fo) (v : Value) (w : World) (ht : nd.vt.size ≤ maxLen) (hn : nd.nm.size ≤ maxLen) (hwf : k.Wf) (hl : k.len ≤ 1048576) (hs : k.Sm) (hr : RowAt 0 w k v) :
    Calls Tryz.prog 24 #[ndV nd v] w fun e w' => e = .returned (.bool (Pl.okN nd k 5)) ∧ Below w.heap.size w w' := by
  have hq : Hid (∀ W, Below w.heap.size w W → Calls Tryz.prog 49 #[ndV nd v, .int .i64 5] W fun e w' => e = .returned (.bool (Pl.okN nd k 5)) ∧ Below W.heap.size W w') := fun W hW => exprFits_any 5 (Nat.le_refl _) nd k v W ht hn hwf hl hs (hr.later hW)
  clear hr hwf hs
  go_enter Tryz.func24, Tryz.ntmps24
  go_wp2_with fail
  refine (hq.out _ ((Below.refl _ _).alloc (Nat.le_refl _) _)).mono ?_
  rintro e w1 ⟨rfl, hB1⟩
  go_wp2
  go_ret
  exact ⟨rfl, ((Below.refl _ _).alloc (Nat.le_refl _) _).trans (hB1.mono (by simp))⟩
end Go.Proofs.YtamkncfdfaejjaaGreatDoor
