/- Whether an expression is ok, as the specification has it. -/
import Derived.Test.YtamkncfdfaejjaaGreatDoorAri
import Derived.Test.YtamkncfdfaejjaaGreatDoorName1
import Derived.Deep.RegionWith
import Derived.Deep.QuietTactic
import Derived.BigQuiet
namespace Go.Proofs.YtamkncfdfaejjaaGreatDoor
open Go.RowKit
set_option linter.unusedVariables false
namespace Pl
def valB (nd : Nd) : Bool := if nd.k = 1 then okB nd.vk nd.vn nd.vt else ((nd.vk == 0) && (nd.vn == 0)) && nd.vt.toList.isEmpty
def nmB (nd : Nd) : Bool := if nd.k = 2 then nameB nd.nm else nd.nm.toList.isEmpty
def okF : Fo → Nat → Bool
  | .nil, _ => true
  | .cons nd k r, d => (decide (1 ≤ d) && (((k.len : Int) == arity nd.k) && (valB nd && nmB nd)) && okF k (d - 1)) && okF r d
def okN (nd : Nd) (k : Fo) (d : Nat) : Bool := decide (1 ≤ d) && (((k.len : Int) == arity nd.k) && (valB nd && nmB nd)) && okF k (d - 1)
theorem okF_all : ∀ (F : Fo) (d : Nat), (∀ i nd k, F.get i = some (nd, k) → okN nd k d = true) → okF F d = true
  | .nil, _, _ => rfl
  | .cons nd k r, d, h => by
    have h1 := h 0 nd k rfl
    have h2 := okF_all r d (fun i nd' k' hk => h (i + 1) nd' k' hk)
    unfold okN at h1
    simp only [okF, h1, h2, Bool.and_self]
theorem okF_not : ∀ (F : Fo) (d i : Nat) (nd : Nd) (k : Fo), F.get i = some (nd, k) → okN nd k d = false → okF F d = false
  | .nil, _, i, nd, k, h, _ => by simp [Fo.get] at h
  | .cons nd' k' r, d, 0, nd, k, h, h0 => by
    simp only [Fo.get, Option.some.injEq, Prod.mk.injEq] at h
    obtain ⟨rfl, rfl⟩ := h
    unfold okN at h0
    simp only [okF, h0, Bool.false_and]
  | .cons nd' k' r, d, i + 1, nd, k, h, h0 => by
    have := okF_not r d i nd k h h0
    simp only [okF, this, Bool.and_false]
end Pl

def OkP (f : FuncId) (d : Nat) : Prop := ∀ (nd : Nd) (k : Fo) (v : Value) (w : World), nd.vt.size ≤ maxLen → nd.nm.size ≤ maxLen → k.Wf → k.len ≤ 1048576 → k.Sm → RowAt 0 w k v → Calls Tryz.prog f #[ndV nd v, .int .i64 d] w fun e w' => e = .returned (.bool (Pl.okN nd k d)) ∧ Below w.heap.size w w'

set_option maxHeartbeats 1600000 in
theorem l2Ok_val_no (d : Nat) (hd : d ≤ 5) (vk vn : Int) (vt nm : ByteArray) (v : Value) (w : World) (ht : vt.size ≤ maxLen) (bv bn : Bool) (hbv : Pl.okB vk vn vt = bv) (hbn : nm.toList.isEmpty = bn) (hok : ¬ (1 ≤ d ∧ bv = true ∧ bn = true)) :
    Calls Tryz.prog 50 #[ndV ⟨1, vk, vn, vt, nm⟩ v, .int .i64 d] w fun e w' => e = .returned (.bool false) ∧ Below w.heap.size w w' := by
  have hv := hide (specValueOk_any vk vn vt ht)
  rw [hbv] at hv
  clear hbv
  by_cases h1 : 1 ≤ d
  · have dl : ((d : Int) < 1) = False := by simp; omega
    cases bv
    · clear hok
      go_enter Tryz.func50, Tryz.ntmps50
      go_wp2_with fail
      refine (hv.out _).mono ?_
      rintro e w1 ⟨rfl, hB1⟩
      have c0 : w1.cell? ⟨w.heap.size, 0, none⟩ = some (.int .i64 1) := boxC hB1 (by simp) 0
      have c4 : w1.cell? ⟨w.heap.size, 4, none⟩ = some (.string nm) := boxC hB1 (by simp) 4
      have HB : Hid (Below w.heap.size w w1) := ((Below.refl _ _).alloc (Nat.le_refl _) _).trans (hB1.mono (by simp))
      clear hB1 hv
      go_wp2_with fail
      go_quiet (fail)
      go_wp2
      go_ret
      exact ⟨rfl, below_drewN HB.out _⟩
    · cases bn
      · clear hok
        go_enter Tryz.func50, Tryz.ntmps50
        go_wp2_with fail
        refine (hv.out _).mono ?_
        rintro e w1 ⟨rfl, hB1⟩
        have c0 : w1.cell? ⟨w.heap.size, 0, none⟩ = some (.int .i64 1) := boxC hB1 (by simp) 0
        have c4 : w1.cell? ⟨w.heap.size, 4, none⟩ = some (.string nm) := boxC hB1 (by simp) 4
        have HB : Hid (Below w.heap.size w w1) := ((Below.refl _ _).alloc (Nat.le_refl _) _).trans (hB1.mono (by simp))
        clear hB1 hv
        go_wp2_with fail
        go_quiet (fail)
        go_wp2
        go_ret
        exact ⟨rfl, below_drewN HB.out _⟩
      · exact absurd ⟨h1, rfl, rfl⟩ hok
  · have hd0 : d = 0 := by omega
    subst hd0
    clear hok
    go_enter Tryz.func50, Tryz.ntmps50
    go_wp2_with fail
    refine (hv.out _).mono ?_
    rintro e w1 ⟨rfl, hB1⟩
    have c0 : w1.cell? ⟨w.heap.size, 0, none⟩ = some (.int .i64 1) := boxC hB1 (by simp) 0
    have c4 : w1.cell? ⟨w.heap.size, 4, none⟩ = some (.string nm) := boxC hB1 (by simp) 4
    have HB : Hid (Below w.heap.size w w1) := ((Below.refl _ _).alloc (Nat.le_refl _) _).trans (hB1.mono (by simp))
    clear hB1 hv
    cases bv
    all_goals
      go_wp2_with fail
      go_quiet (fail)
      go_wp2
      go_ret
      exact ⟨rfl, below_drewN HB.out _⟩

set_option maxHeartbeats 1600000 in
theorem l2Ok_val (d : Nat) (hd : d ≤ 5) (ih : 1 ≤ d → OkP 50 (d - 1)) (vk vn : Int) (vt nm : ByteArray) (k : Fo) (v : Value) (w : World) (ht : vt.size ≤ maxLen) (hn : nm.size ≤ maxLen) (hwf : k.Wf) (hl : k.len ≤ 1048576) (hs : k.Sm) (hr : RowAt 0 w k v) :
    Calls Tryz.prog 50 #[ndV ⟨1, vk, vn, vt, nm⟩ v, .int .i64 d] w fun e w' => e = .returned (.bool (Pl.okN ⟨1, vk, vn, vt, nm⟩ k d)) ∧ Below w.heap.size w w' := by
  have hv := hide (specValueOk_any vk vn vt ht)
  have har := hide (l2Arity_any 1)
  have HR := hide hr
  have hval : Hid (Pl.valB ⟨1, vk, vn, vt, nm⟩ = Pl.okB vk vn vt) := by show _ = _; simp [Pl.valB]
  have hnmb : Hid (Pl.nmB ⟨1, vk, vn, vt, nm⟩ = nm.toList.isEmpty) := by show _ = _; simp [Pl.nmB]
  obtain ⟨ad, cap, rfl, hc, hm, hx⟩ := hr
  have HX := hide hx
  clear hx
  unfold maxLen at hm
  generalize hbv : Pl.okB vk vn vt = bv at hv hval
  generalize hbn : nm.toList.isEmpty = bn at hnmb
  by_cases hok : 1 ≤ d ∧ bv = true ∧ bn = true
  · obtain ⟨hd1, rfl, rfl⟩ := hok
    have IH := hide (ih hd1)
    have dl : ((d : Int) < 1) = False := by simp; omega
    clear ih
    go_enter Tryz.func50, Tryz.ntmps50
    go_wp2_with fail
    refine (hv.out _).mono ?_
    rintro e w1 ⟨rfl, hB1⟩
    have c0 : w1.cell? ⟨w.heap.size, 0, none⟩ = some (.int .i64 1) := boxC hB1 (by simp) 0
    have c4 : w1.cell? ⟨w.heap.size, 4, none⟩ = some (.string nm) := boxC hB1 (by simp) 4
    have c5 : w1.cell? ⟨w.heap.size, 5, none⟩ = some (.slice ad k.len cap) := boxC hB1 (by simp) 5
    have hsz : w.heap.size < w1.heap.size := by have := hB1.size; simp at this; omega
    have HB : Hid (Below w.heap.size w w1) := ((Below.refl _ _).alloc (Nat.le_refl _) _).trans (hB1.mono (by simp))
    clear hB1 hv
    have hle : (if ((k.len : Int) == Pl.arity 1) = true then True else True) := by split <;> trivial
    clear hle
    cases hab : ((k.len : Int) == Pl.arity 1)
    · go_wp2_with fail
      have hf : Hid (Pl.okN ⟨1, vk, vn, vt, nm⟩ k d = false) := by show _ = _; simp [Pl.okN, hab]
      go_quiet ((go_at_call 70; exact Calls.quiet_of_same (har.out _)))
      go_wp2
      go_ret
      exact ⟨by rw [hf.out]; rfl, below_drewN HB.out _⟩
    · have hN : Hid (Pl.okN ⟨1, vk, vn, vt, nm⟩ k d = Pl.okF k (d - 1)) := by show _ = _; simp [Pl.okN, hab, hval.out, hnmb.out, hd1]
      have hne : ((k.len : Int) != Pl.arity 1) = false := by simp only [bne, hab, Bool.not_true]
      clear hab
      go_wp2_with fail
      go_quiet ((go_at_call 70; exact Calls.quiet_of_same (har.out _)))
      clear har hval hnmb hbn c0 c4
      go_wp2_with fail
      clear hne
      go_loopw [7] (fun iv wr => ∃ i : Nat, i ≤ k.len ∧ iv = .int .i64 i ∧ Hid (∀ j nd k', j < i → k.get j = some (nd, k') → Pl.okN nd k' (d - 1) = true) ∧ wr.cell? ⟨w.heap.size, 5, none⟩ = some (.slice ad k.len cap) ∧ w.heap.size < wr.heap.size ∧ Hid (Below w.heap.size w wr)) (fun iv _ => k.len - (intOf iv).toNat)
      case atStart => exact ⟨0, by omega, rfl, hide (fun j _ _ hj => by omega), by simpa using c5, by simpa using hsz, hide (below_drewN HB.out _)⟩
      case round =>
        obtain ⟨i, hi, rfl, HS, c5, hsz, hB⟩ := hrel
        by_cases hlt : i < k.len
        · obtain ⟨g, off, rfl, _, hg, hfo⟩ := HX.out (by omega)
          obtain ⟨nd, k', hget⟩ := k.get_some i hlt
          obtain ⟨v, hnd⟩ := hfo.get hget
          obtain ⟨d0, d1, d2, d3, d4, d5, hrow⟩ := hnd.later hB.out hg
          obtain ⟨w2, w3⟩ := hs.get hget
          obtain ⟨x1, x2, x3⟩ := hwf.get hget
          have hq := hide (IH.out nd k' v wr x1 x2 x3 w2 w3 hrow)
          rw [show ((d - 1 : Nat) : Int) = (d : Int) - 1 by omega] at hq
          have HG := hide hget
          clear hfo hnd hrow hget
          have hii : (i : Int) < (k.len : Int) := by omega
          go_wp2_with fail
          refine hq.out.mono ?_
          rintro e w4 ⟨rfl, hB4⟩
          have c5' : w4.cell? ⟨w.heap.size, 5, none⟩ = some (.slice (some ⟨g, off, none⟩) k.len cap) := (hB4.cell (p := ⟨w.heap.size, 5, none⟩) hsz).trans c5
          have hsz' : w.heap.size < w4.heap.size := by have := hB4.size; omega
          have HB4 : Hid (Below w.heap.size w w4) := hB.out.trans (hB4.mono hB.out.size)
          clear hq d0 d1 d2 d3 d4 d5 c5 hB4
          cases hon : Pl.okN nd k' (d - 1)
          · have hall : Hid (Pl.okF k (d - 1) = false) := Pl.okF_not k (d - 1) i nd k' HG.out hon
            go_wp2
            go_ret
            exact ⟨by rw [hN.out, hall.out]; rfl, HB4.out⟩
          · have HS' : Hid (∀ j nd k', j < i + 1 → k.get j = some (nd, k') → Pl.okN nd k' (d - 1) = true) := by
              refine hide fun j nd' k'' hj hk => ?_
              by_cases hji : j = i
              · subst hji
                rw [HG.out] at hk
                cases hk
                exact hon
              · exact HS.out j nd' k'' (by omega) hk
            clear hon
            go_wp2
            go_roundw
            case rel => exact ⟨i + 1, by omega, by go_num, HS', c5', hsz', HB4⟩
            case measure => simp [intOf]; omega
        · have hie : i = k.len := by omega
          have hall : Hid (Pl.okF k (d - 1) = true) := by
            refine hide (Pl.okF_all k (d - 1) fun j nd k' hk => HS.out j nd k' ?_ hk)
            apply Classical.byContradiction
            intro hx
            rw [Fo.get_none k j (by omega)] at hk
            cases hk
          go_wp2
          go_ret
          exact ⟨by rw [hN.out, hall.out]; rfl, hB.out⟩
  · have hf : Hid (Pl.okN ⟨1, vk, vn, vt, nm⟩ k d = false) := by
      show _ = _
      unfold Pl.okN
      rw [hval.out, hnmb.out]
      by_cases h1 : 1 ≤ d
      · cases bv
        · simp
        · cases bn
          · simp
          · exact absurd ⟨h1, rfl, rfl⟩ hok
      · simp [h1]
    rw [hf.out]
    exact l2Ok_val_no d hd vk vn vt nm (.slice ad k.len cap) w ht bv bn hbv hbn hok
end Go.Proofs.YtamkncfdfaejjaaGreatDoor
