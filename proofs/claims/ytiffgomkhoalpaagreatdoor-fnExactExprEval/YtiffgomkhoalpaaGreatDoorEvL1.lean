/- Names with values counted by the laws. -/
import Derived.Test.YtiffgomkhoalpaaGreatDoorPlEv2
import Derived.Test.YtiffgomkhoalpaaGreatDoorSzV
import Derived.Test.YtiffgomkhoalpaaGreatDoorBx
namespace Go.Proofs.YtiffgomkhoalpaaGreatDoor
open Go.RowKit
set_option linter.unusedVariables false
set_option linter.unusedSimpArgs false
set_option maxHeartbeats 800000 in
theorem szPair_at (p : Pl.Pr) (hw : PrWf p) (left : Int) (h0 : 0 ≤ left) (h1 : left ≤ 1048576) (w : World) :
    Calls Tryz.prog 27 #[.agg #[.string p.nm, .int .i64 p.v.k, .int .i64 p.v.n, .string p.v.t], .int .i64 left] w fun e w' => (∃ r : Int, e = .returned (.int .i64 r) ∧ -1 ≤ r ∧ r ≤ left) ∧ Below w.heap.size w w' := by
  obtain ⟨nm, vk, vn, vt⟩ := p
  obtain ⟨hn, ht⟩ := hw
  unfold maxLen at hn
  simp only at hn ht
  by_cases h2 : left - nm.size < 0
  · go_enter Tryz.func27, Tryz.ntmps27
    go_wp2
    go_ret
    exact ⟨⟨-1, rfl, by omega, by omega⟩, (Below.refl _ _).alloc (Nat.le_refl _) _⟩
  · have hv := hide (szValue_at vk vn vt ht (left - nm.size) (by omega) (by omega))
    go_enter Tryz.func27, Tryz.ntmps27
    go_wp2_with fail
    refine (hv.out _).mono ?_
    rintro e w1 ⟨rfl, hB1⟩
    have HB : Below w.heap.size w w1 := ((Below.refl _ _).alloc (Nat.le_refl _) _).trans (hB1.mono (by simp))
    clear hB1 hv
    by_cases h3 : left - nm.size - vt.size < 0
    · rw [if_pos h3]
      go_wp2
      go_ret
      exact ⟨⟨-1, rfl, by omega, by omega⟩, HB⟩
    · rw [if_neg h3]
      go_wp2
      go_ret
      exact ⟨⟨_, rfl, by omega, by omega⟩, HB⟩
set_option maxRecDepth 100000 in
set_option maxHeartbeats 1600000 in
theorem szPairS_any (l : List Pl.Pr) (hwf : ∀ p ∈ l, PrWf p) (v : Value) (w : World) (hr : PrRow w l v) (left : Int) (h0 : 0 ≤ left) (h1 : left ≤ 1048576) :
    Calls Tryz.prog 10 #[v, .int .i64 left] w fun x w' => (∃ r : Int, x = .returned (.int .i64 r) ∧ (0 ≤ r → l.length ≤ 1048576)) ∧ Below w.heap.size w w' := by
  obtain ⟨ad, cap, rfl, hc, hmx, hx⟩ := hr
  unfold maxLen at hmx
  have HX := hide hx
  have HW := hide hwf
  clear hx hwf
  by_cases hl : left - (l.length : Int) < 0
  · go_enter Tryz.func10, Tryz.ntmps10
    go_wp2_with fail
    go_ret
    exact ⟨⟨-1, rfl, by omega⟩, Below.refl _ _⟩
  · have hN : l.length ≤ 1048576 := by omega
    go_enter Tryz.func10, Tryz.ntmps10
    go_wp2_with fail
    go_loopw [1, 5] (fun lv iv wr => ∃ (i : Nat) (L : Int), i ≤ l.length ∧ iv = .int .i64 i ∧ lv = .int .i64 L ∧ 0 ≤ L ∧ L ≤ 1048576 ∧ Hid (Below w.heap.size w wr)) (fun _ iv _ => l.length - (intOf iv).toNat)
    case atStart => exact ⟨0, _, by omega, rfl, rfl, by omega, by omega, Below.refl _ _⟩
    case round =>
      obtain ⟨i, L, hi, rfl, rfl, hL0, hL1, HB⟩ := hrel
      by_cases hlt : i < l.length
      · obtain ⟨g, off, rfl, hg, hs⟩ := HX.out (by omega)
        obtain ⟨e, he⟩ : ∃ e, l[i]? = some e := ⟨_, List.getElem?_eq_getElem hlt⟩
        obtain ⟨c0, c1, c2, c3⟩ := (hs i e he).later HB.out hg
        have hgr : g < wr.heap.size := by have := HB.out.size; omega
        have hsz := hide (szPair_at e (HW.out e (List.mem_of_getElem? he)) L hL0 hL1)
        have hii : (i : Int) < (l.length : Int) := by omega
        clear hs he hl
        go_wp2_with fail
        refine (hsz.out _).mono ?_
        rintro x1 X1 ⟨⟨r, rfl, r0, r1⟩, hB1⟩
        have HB1 := hide (HB.out.trans (hB1.mono HB.out.size))
        clear hB1 hsz c0 c1 c2 c3 hgr
        by_cases n1 : r < 0
        · go_wp2_with fail
          go_ret
          exact ⟨⟨-1, rfl, by omega⟩, HB1.out⟩
        · go_wp2_with fail
          go_roundw
          case rel => exact ⟨i + 1, r, by omega, by go_num, rfl, by omega, by omega, HB1⟩
          case measure => simp [intOf]; omega
      · go_wp2_with fail
        go_ret
        exact ⟨⟨L, rfl, fun _ => hN⟩, HB.out⟩
end Go.Proofs.YtiffgomkhoalpaaGreatDoor
