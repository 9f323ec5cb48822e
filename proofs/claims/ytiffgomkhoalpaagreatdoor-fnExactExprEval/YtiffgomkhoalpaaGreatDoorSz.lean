/- How large an expression is, as the laws count. -/
import Derived.Test.YtiffgomkhoalpaaGreatDoorTree
import Derived.Test.YtiffgomkhoalpaaGreatDoorSzV
namespace Go.Proofs.YtiffgomkhoalpaaGreatDoor
open Go.RowKit
set_option linter.unusedVariables false

def SzPost (F : Fo) (left : Int) (w : World) (e : Ending) (w' : World) : Prop :=
  ∃ r : Int, e = .returned (.int .i64 r) ∧ -1 ≤ r ∧ r ≤ left ∧ (0 ≤ r → F.len ≤ 1048576 ∧ F.Sm ∧ r + F.nodes ≤ left) ∧ Below w.heap.size w w'
def SzP (F : Fo) : Prop := ∀ (v : Value) (w : World) (left : Int), 0 ≤ left → left ≤ 1048576 → F.Wf → RowAt 0 w F v → Calls Tryz.prog 26 #[v, .int .i64 left] w (SzPost F left w)

set_option maxHeartbeats 800000 in
theorem szExpr_of (nd : Nd) (k : Fo) (hk : SzP k) (ht : nd.vt.size ≤ maxLen) (hn : nd.nm.size ≤ maxLen) (hwf : k.Wf) (v : Value) (w : World) (left : Int) (h0 : 0 ≤ left) (h1 : left ≤ 1048576) (hr : RowAt 0 w k v) :
    Calls Tryz.prog 9 #[ndV nd v, .int .i64 left] w (SzPost k left w) := by
  obtain ⟨nk, vk, vn, vt, nm⟩ := nd
  have hv := hide (szValue_at vk vn vt ht left h0 h1)
  have HR := hide hr
  clear hr
  unfold maxLen at hn ht
  simp only at hn ht
  go_enter Tryz.func9, Tryz.ntmps9
  go_wp2_with fail
  refine (hv.out _).mono ?_
  rintro e w1 ⟨rfl, hB1⟩
  by_cases h2 : left - vt.size < 0
  · rw [if_pos h2]
    go_wp2
    go_ret
    exact ⟨-1, rfl, by omega, by omega, fun h => by omega, ((Below.refl _ _).alloc (Nat.le_refl _) _).trans (hB1.mono (by simp))⟩
  · rw [if_neg h2]
    have c4 : w1.cell? ⟨w.heap.size, 4, none⟩ = some (.string nm) := boxC hB1 (by simp) 4
    have c5 : w1.cell? ⟨w.heap.size, 5, none⟩ = some v := boxC hB1 (by simp) 5
    have HB : Below w.heap.size w w1 := ((Below.refl _ _).alloc (Nat.le_refl _) _).trans (hB1.mono (by simp))
    clear hB1 hv
    by_cases h3 : left - vt.size - nm.size < 0
    · go_wp2
      go_ret
      exact ⟨-1, rfl, by omega, by omega, fun h => by omega, HB⟩
    · have hq := hide (hk v w1 (left - vt.size - nm.size) (by omega) (by omega) hwf (HR.out.later HB))
      clear hk hwf HR
      go_wp2_with fail
      refine hq.out.mono ?_
      rintro e w2 ⟨r, rfl, hr0, hr1, hr2, hB2⟩
      have HR2 := hide hr2
      clear hr2 hq
      by_cases h4 : r < 0
      · go_wp2
        go_ret
        exact ⟨-1, rfl, by omega, by omega, fun h => by omega, HB.trans (hB2.mono HB.size)⟩
      · go_wp2
        go_ret
        exact ⟨r, rfl, by omega, by omega, fun h => ⟨(HR2.out h).1, (HR2.out h).2.1, by have := (HR2.out h).2.2; omega⟩, HB.trans (hB2.mono HB.size)⟩

set_option maxHeartbeats 800000 in
theorem szExprS_of (F : Fo) (ih : ∀ i nd k, F.get i = some (nd, k) → SzP k) : SzP F := by
  intro v w left h0 h1 hwf hr
  obtain ⟨ad, cap, rfl, hc, hm, hx⟩ := hr
  unfold maxLen at hm
  by_cases hl : left - F.len < 0
  · generalize F.len = N at *
    go_enter Tryz.func26, Tryz.ntmps26
    go_wp2
    go_ret
    exact ⟨-1, rfl, by omega, by omega, fun h => by omega, Below.refl _ _⟩
  · have hN : F.len ≤ 1048576 := by omega
    have HX := hide hx
    have IH := hide ih
    have HW := hide hwf
    clear hx ih hwf
    go_enter Tryz.func26, Tryz.ntmps26
    go_wp2_with fail
    go_loopw [1, 5] (fun lv iv wr => ∃ (i : Nat) (r : Int), i ≤ F.len ∧ iv = .int .i64 i ∧ lv = .int .i64 r ∧ 0 ≤ r ∧ r ≤ left ∧ Hid (r + F.kn i + F.len ≤ left) ∧ Hid (∀ j nd k, j < i → F.get j = some (nd, k) → k.len ≤ 1048576 ∧ k.Sm) ∧ Below w.heap.size w wr) (fun _ iv _ => F.len - (intOf iv).toNat)
    case atStart => exact ⟨0, left - F.len, by omega, rfl, rfl, by omega, by omega, hide (by rw [F.kn_zero]; omega), (fun j nd k hj => by omega : ∀ j nd k, j < 0 → F.get j = some (nd, k) → k.len ≤ 1048576 ∧ k.Sm), Below.refl _ _⟩
    case round =>
      obtain ⟨i, r, hi, rfl, rfl, hr0, hr1, HKN, HS, hB⟩ := hrel
      by_cases hlt : i < F.len
      · obtain ⟨g, off, rfl, _, hg, hfo⟩ := HX.out (by omega)
        obtain ⟨nd, k, hget⟩ := F.get_some i hlt
        obtain ⟨v, hnd⟩ := hfo.get hget
        obtain ⟨d0, d1, d2, d3, d4, d5, hrow⟩ := hnd.later hB hg
        obtain ⟨w1, w2, w3⟩ := HW.out.get hget
        have hq := hide (szExpr_of nd k (IH.out i nd k hget) w1 w2 w3 v wr r hr0 (by omega) hrow)
        have HG := hide hget
        clear hfo hnd hrow hget w3
        have hii : (i : Int) < (F.len : Int) := by omega
        go_wp2_with fail
        refine hq.out.mono ?_
        rintro e w3 ⟨r', rfl, hs0, hs1, hs2, hB3⟩
        have HS2 := hide hs2
        clear hs2 hq d0 d1 d2 d3 d4 d5
        by_cases h4 : r' < 0
        · go_wp2
          go_ret
          exact ⟨-1, rfl, by omega, by omega, fun h => by omega, hB.trans (hB3.mono hB.size)⟩
        · go_wp2
          go_roundw
          case rel =>
            refine ⟨i + 1, r', by omega, by go_num, rfl, by omega, by omega, hide (by have h1 := (HS2.out (by omega)).2.2; have h2 := HKN.out; have h3 := F.kn_succ i nd k HG.out; omega), hide fun j nd' k' hj hk => ?_, hB.trans (hB3.mono hB.size)⟩
            by_cases hji : j = i
            · subst hji
              rw [HG.out] at hk
              cases hk
              exact ⟨(HS2.out (by omega)).1, (HS2.out (by omega)).2.1⟩
            · exact HS.out j nd' k' (by omega) hk
          case measure => simp [intOf]; omega
      · go_wp2
        go_ret
        have hie : i = F.len := by omega
        refine ⟨r, rfl, by omega, hr1, fun _ => ⟨hN, Fo.Sm.of_get fun j nd k hj => ?_, by have h2 := HKN.out; have h3 := F.kn_all; rw [hie] at h2; omega⟩, hB⟩
        have hjl : j < F.len := by
          apply Classical.byContradiction
          intro hn
          rw [Fo.get_none F j (by omega)] at hj
          cases hj
        exact HS.out j nd k (by omega) hj
theorem szExprS_fuel : ∀ (n : Nat) (F : Fo), F.nodes ≤ n → SzP F
  | 0, F, h => szExprS_of F fun i nd k hk => by have := F.get_nodes i nd k hk; omega
  | n + 1, F, h => szExprS_of F fun i nd k hk => szExprS_fuel n k (by have := F.get_nodes i nd k hk; omega)
theorem szExprS_any (F : Fo) : SzP F := szExprS_fuel F.nodes F (Nat.le_refl _)
end Go.Proofs.YtiffgomkhoalpaaGreatDoor
