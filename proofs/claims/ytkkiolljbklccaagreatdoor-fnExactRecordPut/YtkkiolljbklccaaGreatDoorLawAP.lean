/- The law on an act that is written, walked. -/
import Derived.Test.YtkkiolljbklccaaGreatDoorActB
namespace Go.Proofs.YtkkiolljbklccaaGreatDoor
open Go.RowKit
set_option linter.unusedVariables false
set_option linter.unusedSimpArgs false
set_option maxHeartbeats 800000 in
theorem szAct_full (k r p : Int) (nm : ByteArray) (o : Bool) (vk vn : Int) (vt : ByteArray) (m : Int) (hn : nm.size ≤ maxLen) (ht : vt.size ≤ maxLen) (left : Int) (h0 : 0 ≤ left) (h1 : left ≤ 1048576) (w : World) :
    Calls Tryz.prog 7 #[actV k r p nm o vk vn vt m, .int .i64 left] w fun e w' => (∃ z : Int, e = .returned (.int .i64 z) ∧ (¬ z < 0 → nm.size ≤ 1048576 ∧ vt.size ≤ 1048576)) ∧ Below w.heap.size w w' := by
  unfold maxLen at hn
  by_cases h2 : left - nm.size < 0
  · go_enter Tryz.func7, Tryz.ntmps7
    go_wp2
    go_ret
    exact ⟨⟨-1, rfl, by omega⟩, (Below.refl _ _).alloc (Nat.le_refl _) _⟩
  · have hv := hide (szValue_at vk vn vt ht (left - nm.size) (by omega) (by omega))
    go_enter Tryz.func7, Tryz.ntmps7
    go_wp2_with fail
    refine (hv.out _).mono ?_
    rintro e w1 ⟨rfl, hB1⟩
    have HB : Below w.heap.size w w1 := ((Below.refl _ _).alloc (Nat.le_refl _) _).trans (hB1.mono (by simp))
    clear hB1 hv
    by_cases h3 : left - nm.size - vt.size < 0
    · rw [if_pos h3]
      go_wp2
      go_ret
      exact ⟨⟨-1, rfl, by omega⟩, HB⟩
    · rw [if_neg h3]
      go_wp2
      go_ret
      exact ⟨⟨_, rfl, by omega⟩, HB⟩
set_option maxHeartbeats 1600000 in
theorem lawActPut_any (k r p : Int) (nm : ByteArray) (o : Bool) (vk vn : Int) (vt : ByteArray) (m : Int) (hn : nm.size ≤ maxLen) (ht : vt.size ≤ maxLen) (w : World) (hT : Tab w) :
    Calls Tryz.prog 3 #[actV k r p nm o vk vn vt m] w fun e w' => e = .returned (.bool true) ∧ Below w.heap.size w w' := by
  have hs := hide (szAct_full k r p nm o vk vn vt m hn ht 1048576 (by omega) (by omega))
  have hto := hide (toAct_any k r p nm o vk vn vt m)
  have hsp := hide (specActPut_any k r p nm o vk vn vt m)
  have him := hide (fun a b W hW => implActPut_any k r p nm o vk vn vt m a b W hW)
  have HT := hide hT
  generalize Pl.bs (Pl.actP k r p nm o vk vn vt m) = T at hsp him
  go_enter Tryz.func3, Tryz.ntmps3
  go_wp2_with fail
  refine (hs.out _).mono ?_
  rintro e w1 ⟨⟨rr, rfl, hr0⟩, hB1⟩
  have HX1 := hide (BoxNine.mk hB1)
  have HB1 := hide (below_box1 hB1)
  clear hB1 hs
  by_cases h0 : rr < 0
  · go_wp2
    go_ret
    exact ⟨rfl, HB1.out⟩
  · obtain ⟨hn1, ht1⟩ := hr0 (by omega)
    have hsp2 := hide (hsp.out hn1 ht1)
    have him2 := hide (him.out hn1 ht1)
    obtain ⟨z1, c0, c1, c2, c3, c4, c5, c6, c7, c8⟩ := HX1.out
    clear hsp him hn1 ht1 hr0
    go_wp2_with fail
    refine (hto.out _).mono ?_
    rintro e w2 ⟨rfl, hB2⟩
    have HX2 := hide (HX1.out.later hB2)
    have HB2 := hide (HB1.out.trans (hB2.mono HB1.out.size))
    clear hB2 HX1 HB1 c0 c1 c2 c3 c4 c5 c6 c7 c8 z1
    go_wp2_with fail
    refine (hsp2.out _).mono ?_
    rintro e w3 ⟨rfl, hB3⟩
    have HX3 := hide (HX2.out.later hB3)
    have HB3 := hide (HB2.out.trans (hB3.mono HB2.out.size))
    clear hB3 HX2 HB2
    obtain ⟨z1, c0, c1, c2, c3, c4, c5, c6, c7, c8⟩ := HX3.out
    go_wp2_with fail
    refine (hto.out _).mono ?_
    rintro e w4 ⟨rfl, hB4⟩
    have HB4 := hide (HB3.out.trans (hB4.mono HB3.out.size))
    clear hB4 HX3 HB3 c0 c1 c2 c3 c4 c5 c6 c7 c8 z1
    go_wp2_with fail
    refine (him2.out _ (HT.out.later HB4.out)).mono ?_
    rintro e w5 ⟨rfl, hB5⟩
    have HB5 := hide (HB4.out.trans (hB5.mono HB4.out.size))
    clear hB5 HB4
    have hne : (T.toList == T.toList) = true := by simp
    go_wp2
    go_ret
    exact ⟨rfl, HB5.out⟩
end Go.Proofs.YtkkiolljbklccaaGreatDoor
