/- Whether an expression is ok, as the specification has it: names. -/
import Derived.Test.YtamkncfdfaejjaaGreatDoorOk1
namespace Go.Proofs.YtamkncfdfaejjaaGreatDoor
open Go.RowKit
set_option linter.unusedVariables false

set_option maxHeartbeats 1600000 in
theorem l2Ok_var (d : Nat) (hd : d ≤ 5) (ih : OkP 50 (d - 1)) (vt nm : ByteArray) (hvt : vt.toList.isEmpty = true) (hnt : Pl.nameB nm = true) (hd1 : 1 ≤ d) (k : Fo) (v : Value) (w : World) (ht : vt.size ≤ maxLen) (hn : nm.size ≤ maxLen) (hwf : k.Wf) (hl : k.len ≤ 1048576) (hs : k.Sm) (hr : RowAt 0 w k v) :
    Calls Tryz.prog 50 #[ndV ⟨2, 0, 0, vt, nm⟩ v, .int .i64 d] w fun e w' => e = .returned (.bool (Pl.okN ⟨2, 0, 0, vt, nm⟩ k d)) ∧ Below w.heap.size w w' := by
  have hv := hide (l1Name_any nm hn)
  rw [hnt] at hv
  have har := hide (l2Arity_any 2)
  have HR := hide hr
  have hval : Hid (Pl.valB ⟨2, 0, 0, vt, nm⟩ = true) := by show _ = _; simp only [Pl.valB, hvt]; rfl
  have hnmb : Hid (Pl.nmB ⟨2, 0, 0, vt, nm⟩ = true) := by show _ = _; simp only [Pl.nmB, hnt]; rfl
  obtain ⟨ad, cap, rfl, hc, hm, hx⟩ := hr
  have HX := hide hx
  clear hx hnt
  unfold maxLen at hm
  · have IH := hide ih
    have dl : ((d : Int) < 1) = False := by simp; omega
    clear ih
    go_enter Tryz.func50, Tryz.ntmps50
    go_wp2_with fail
    refine (hv.out _).mono ?_
    rintro e w1 ⟨rfl, hB1⟩
    have c0 : w1.cell? ⟨w.heap.size, 0, none⟩ = some (.int .i64 2) := boxC hB1 (by simp) 0
    have c4 : w1.cell? ⟨w.heap.size, 4, none⟩ = some (.string nm) := boxC hB1 (by simp) 4
    have c5 : w1.cell? ⟨w.heap.size, 5, none⟩ = some (.slice ad k.len cap) := boxC hB1 (by simp) 5
    have hsz : w.heap.size < w1.heap.size := by have := hB1.size; simp at this; omega
    have HB : Hid (Below w.heap.size w w1) := ((Below.refl _ _).alloc (Nat.le_refl _) _).trans (hB1.mono (by simp))
    clear hB1 hv
    have hle : (if ((k.len : Int) == Pl.arity 2) = true then True else True) := by split <;> trivial
    clear hle
    cases hab : ((k.len : Int) == Pl.arity 2)
    · go_wp2_with fail
      have hf : Hid (Pl.okN ⟨2, 0, 0, vt, nm⟩ k d = false) := by show _ = _; simp [Pl.okN, hab]
      go_quiet ((go_at_call 70; exact Calls.quiet_of_same (har.out _)))
      go_wp2
      go_ret
      exact ⟨by rw [hf.out]; rfl, below_drewN HB.out _⟩
    · have hN : Hid (Pl.okN ⟨2, 0, 0, vt, nm⟩ k d = Pl.okF k (d - 1)) := by show _ = _; simp [Pl.okN, hab, hval.out, hnmb.out, hd1]
      have hne : ((k.len : Int) != Pl.arity 2) = false := by simp only [bne, hab, Bool.not_true]
      clear hab
      go_wp2_with fail
      go_quiet ((go_at_call 70; exact Calls.quiet_of_same (har.out _)))
      clear har hval hnmb hvt c0 c4
      go_wp2_with fail
      clear hne
      go_loopw [7] (fun iv wr => ∃ i : Nat, i ≤ k.len ∧ iv = .int .i64 i ∧ Hid (∀ j nd k', j < i → k.get j = some (nd, k') → Pl.okN nd k' (d - 1) = true) ∧ wr.cell? ⟨w.heap.size, 5, none⟩ = some (.slice ad k.len cap) ∧ w.heap.size < wr.heap.size ∧ Hid (Below w.heap.size w wr)) (fun iv _ => k.len - (intOf iv).toNat)
      case atStart => exact ⟨0, by omega, rfl, hide (fun j _ _ hj => by omega), by simpa using c5, by simpa using hsz, hide (below_drewN HB.out _)⟩
      case round =>
        obtain ⟨i, hi, rfl, HS, c5, hsz, hB⟩ := hrel
        by_cases hlt : i < k.len
        · obtain ⟨g, off, rfl, _, hg, hfo⟩ := HX.out (by omega)
          obtain ⟨nd, k', hget⟩ := k.get_some i hlt
          obtain ⟨v, hnd⟩ := hfo.get hget
          obtain ⟨d0, d1, d2, d3, d4, d5, hrow⟩ := hnd.later hB.out hg
          obtain ⟨w2, w3⟩ := hs.get hget
          obtain ⟨x1, x2, x3⟩ := hwf.get hget
          have hq := hide (IH.out nd k' v wr x1 x2 x3 w2 w3 hrow)
          rw [show ((d - 1 : Nat) : Int) = (d : Int) - 1 by omega] at hq
          have HG := hide hget
          clear hfo hnd hrow hget
          have hii : (i : Int) < (k.len : Int) := by omega
          go_wp2_with fail
          refine hq.out.mono ?_
          rintro e w4 ⟨rfl, hB4⟩
          have c5' : w4.cell? ⟨w.heap.size, 5, none⟩ = some (.slice (some ⟨g, off, none⟩) k.len cap) := (hB4.cell (p := ⟨w.heap.size, 5, none⟩) hsz).trans c5
          have hsz' : w.heap.size < w4.heap.size := by have := hB4.size; omega
          have HB4 : Hid (Below w.heap.size w w4) := hB.out.trans (hB4.mono hB.out.size)
          clear hq d0 d1 d2 d3 d4 d5 c5 hB4
          cases hon : Pl.okN nd k' (d - 1)
          · have hall : Hid (Pl.okF k (d - 1) = false) := Pl.okF_not k (d - 1) i nd k' HG.out hon
            go_wp2
            go_ret
            exact ⟨by rw [hN.out, hall.out]; rfl, HB4.out⟩
          · have HS' : Hid (∀ j nd k', j < i + 1 → k.get j = some (nd, k') → Pl.okN nd k' (d - 1) = true) := by
              refine hide fun j nd' k'' hj hk => ?_
              by_cases hji : j = i
              · subst hji
                rw [HG.out] at hk
                cases hk
                exact hon
              · exact HS.out j nd' k'' (by omega) hk
            clear hon
            go_wp2
            go_roundw
            case rel => exact ⟨i + 1, by omega, by go_num, HS', c5', hsz', HB4⟩
            case measure => simp [intOf]; omega
        · have hie : i = k.len := by omega
          have hall : Hid (Pl.okF k (d - 1) = true) := by
            refine hide (Pl.okF_all k (d - 1) fun j nd k' hk => HS.out j nd k' ?_ hk)
            apply Classical.byContradiction
            intro hx
            rw [Fo.get_none k j (by omega)] at hk
            cases hk
          go_wp2
          go_ret
          exact ⟨by rw [hN.out, hall.out]; rfl, hB.out⟩
end Go.Proofs.YtamkncfdfaejjaaGreatDoor
