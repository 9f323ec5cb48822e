/- Whether an expression is ok, as the program has it: values. -/
import Derived.Test.YtiffgomkhoalpaaGreatDoorOk1f
import Derived.Test.YtiffgomkhoalpaaGreatDoorVal5
import Derived.Test.YtiffgomkhoalpaaGreatDoorName2
namespace Go.Proofs.YtiffgomkhoalpaaGreatDoor
open Go.RowKit
set_option linter.unusedVariables false
theorem boxD {B n : Nat} {w w1 : World} {C : Array Value} {T : TypeId} (hb : Below B ((w.alloc (.cells C T)).drewN n) w1) (h : w.heap.size < B) (i : Nat) : w1.cell? ⟨w.heap.size, i, none⟩ = C[i]? := by
  rw [hb.cell (p := ⟨w.heap.size, i, none⟩) h]
  simp
set_option maxHeartbeats 1600000 in
theorem exprFits_val (d : Nat) (hd : d ≤ 5) (hd1 : 1 ≤ d) (ih : OkP 49 (d - 1)) (vk vn : Int) (vt nm : ByteArray) (k : Fo) (v : Value) (w : World) (ht : vt.size ≤ maxLen) (hn : nm.size ≤ maxLen) (hbv : Pl.okB vk vn vt = true) (hbn : nm.toList.isEmpty = true) (hab : ((k.len : Int) == Pl.arity 1) = true) (hwf : k.Wf) (hl : k.len ≤ 1048576) (hs : k.Sm) (hr : RowAt 0 w k v) :
    Calls Tryz.prog 49 #[ndV ⟨1, vk, vn, vt, nm⟩ v, .int .i64 d] w fun e w' => e = .returned (.bool (Pl.okN ⟨1, vk, vn, vt, nm⟩ k d)) ∧ Below w.heap.size w w' := by
  have hv := hide (implValueOk_any vk vn vt ht)
  rw [hbv] at hv
  have har := hide (exprParts_any 1)
  have hval : Hid (Pl.valB ⟨1, vk, vn, vt, nm⟩ = true) := by show _ = _; simp [Pl.valB, hbv]
  have hnmb : Hid (Pl.nmB ⟨1, vk, vn, vt, nm⟩ = true) := by show _ = _; simp [Pl.nmB, hbn]
  obtain ⟨ad, cap, rfl, hc, hm, hx⟩ := hr
  have HX := hide hx
  have IH := hide ih
  clear hx ih hbv
  unfold maxLen at hm
  have dl : ((d : Int) == 0) = false := beq_eq_false_iff_ne.2 (by omega)
  · have hN : Hid (Pl.okN ⟨1, vk, vn, vt, nm⟩ k d = Pl.okF k (d - 1)) := by show _ = _; simp [Pl.okN, hab, hval.out, hnmb.out, hd1]
    have hne : ((k.len : Int) != Pl.arity 1) = false := by simp only [bne, hab, Bool.not_true]
    clear hab
    go_enter Tryz.func49, Tryz.ntmps49
    go_wp2_with fail
    go_quiet ((go_at_call 69; exact Calls.quiet_of_same (har.out _)))
    go_wp2_with fail
    refine (hv.out _).mono ?_
    rintro e w1 ⟨rfl, hB1⟩
    have c0 : w1.cell? ⟨w.heap.size, 0, none⟩ = some (.int .i64 1) := boxD hB1 (by simp) 0
    have c5 : w1.cell? ⟨w.heap.size, 5, none⟩ = some (.slice ad k.len cap) := boxD hB1 (by simp) 5
    have hsz : w.heap.size < w1.heap.size := by have := hB1.size; simp at this; omega
    have HB : Hid (Below w.heap.size w w1) := (below_drewN ((Below.refl _ _).alloc (Nat.le_refl _) _) _).trans (hB1.mono (by simp))
    clear hB1 hv har
    go_wp2_with fail
    clear hne c0 c5 hbn hval hnmb
    go_loopw [55] (fun iv wr => ∃ i : Nat, i ≤ k.len ∧ iv = .int .i64 i ∧ Hid (∀ j nd k', j < i → k.get j = some (nd, k') → Pl.okN nd k' (d - 1) = true) ∧ Hid (Below w.heap.size w wr)) (fun iv _ => k.len - (intOf iv).toNat)
    case atStart => exact ⟨0, by omega, rfl, hide (fun j _ _ hj => by omega), HB⟩
    case round =>
      obtain ⟨i, hi, rfl, HS, hB⟩ := hrel
      by_cases hlt : i < k.len
      · obtain ⟨g, off, rfl, _, hg, hfo⟩ := HX.out (by omega)
        obtain ⟨nd, k', hget⟩ := k.get_some i hlt
        obtain ⟨v, hnd⟩ := hfo.get hget
        obtain ⟨d0, d1, d2, d3, d4, d5, hrow⟩ := hnd.later hB.out hg
        obtain ⟨w2, w3⟩ := hs.get hget
        obtain ⟨x1, x2, x3⟩ := hwf.get hget
        have hq : Hid (∀ W, Below wr.heap.size wr W → Calls Tryz.prog 49 #[ndV nd v, .int .i64 ((d : Int) - 1)] W fun e w' => e = .returned (.bool (Pl.okN nd k' (d - 1))) ∧ Below W.heap.size W w') := by
          refine hide fun W hW => ?_
          rw [show (d : Int) - 1 = ((d - 1 : Nat) : Int) by omega]
          exact IH.out nd k' v W x1 x2 x3 w2 w3 (hrow.later hW)
        have HG := hide hget
        clear hfo hnd hget
        obtain ⟨ad', cap', rfl, _, _, _⟩ := hrow
        have hii : (i : Int) < (k.len : Int) := by omega
        generalize k'.len = kl at *
        go_wp2_with fail
        refine (hq.out _ ((Below.refl _ _).alloc (Nat.le_refl _) _)).mono ?_
        rintro e w4 ⟨rfl, hB4⟩
        have HB4 : Hid (Below w.heap.size w w4) := (hB.out.alloc hB.out.size _).trans (hB4.mono (by have := hB.out.size; simp; omega))
        clear hq d0 d1 d2 d3 d4 d5 hB4
        cases hon : Pl.okN nd k' (d - 1)
        · have hall : Hid (Pl.okF k (d - 1) = false) := Pl.okF_not k (d - 1) i nd k' HG.out hon
          go_wp2
          go_ret
          exact ⟨by rw [hN.out, hall.out]; rfl, HB4.out⟩
        · have HS' : Hid (∀ j nd k', j < i + 1 → k.get j = some (nd, k') → Pl.okN nd k' (d - 1) = true) := by
            refine hide fun j nd' k'' hj hk => ?_
            by_cases hji : j = i
            · subst hji
              rw [HG.out] at hk
              cases hk
              exact hon
            · exact HS.out j nd' k'' (by omega) hk
          clear hon
          go_wp2
          go_roundw
          case rel => exact ⟨i + 1, by omega, by go_num, HS', HB4⟩
          case measure => simp [intOf]; omega
      · have hie : i = k.len := by omega
        have hall : Hid (Pl.okF k (d - 1) = true) := by
          refine hide (Pl.okF_all k (d - 1) fun j nd k' hk => HS.out j nd k' ?_ hk)
          apply Classical.byContradiction
          intro hx
          rw [Fo.get_none k j (by omega)] at hk
          cases hk
        go_wp2
        go_ret
        exact ⟨by rw [hN.out, hall.out]; rfl, hB.out⟩
end Go.Proofs.YtiffgomkhoalpaaGreatDoor
