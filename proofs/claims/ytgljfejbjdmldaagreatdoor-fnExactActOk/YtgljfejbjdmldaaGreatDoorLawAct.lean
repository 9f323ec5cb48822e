/- The law on acts, walked. -/
import Derived.Test.YtgljfejbjdmldaaGreatDoorAct3
import Derived.Test.YtgljfejbjdmldaaGreatDoorAct4
namespace Go.Proofs.YtgljfejbjdmldaaGreatDoor
open Go.RowKit
set_option linter.unusedVariables false

set_option maxHeartbeats 1600000 in
theorem lawActOk_any (k r p : Int) (nm : ByteArray) (o : Bool) (vk vn : Int) (vt : ByteArray) (m : Int) (hn : nm.size ≤ maxLen) (ht : vt.size ≤ maxLen) (w : World) :
    Calls Tryz.prog 3 #[actV k r p nm o vk vn vt m] w fun e w' => e = .returned (.bool true) ∧ Below w.heap.size w w' := by
  have hs := hide (szAct_at k r p nm o vk vn vt m hn ht 1048576 (by omega) (by omega))
  have hto := hide (toAct_any k r p nm o vk vn vt m)
  have hsp := hide (specActOk_any k r p nm o vk vn vt m hn ht)
  have him := hide (implActOk_any k r p nm o vk vn vt m hn ht)
  generalize Pl.actB k r p nm o vk vn vt m = b at hsp him
  go_enter Tryz.func3, Tryz.ntmps3
  go_wp2_with fail
  refine (hs.out _).mono ?_
  rintro e w1 ⟨⟨rr, rfl, hr0, hr1⟩, hB1⟩
  have HX1 := hide (BoxNine.mk hB1)
  have HB1 := hide (below_box1 hB1)
  clear hB1 hs
  by_cases h0 : rr < 0
  · go_wp2
    go_ret
    exact ⟨rfl, HB1.out⟩
  · obtain ⟨z1, c0, c1, c2, c3, c4, c5, c6, c7, c8⟩ := HX1.out
    go_wp2_with fail
    refine (hto.out _).mono ?_
    rintro e w2 ⟨rfl, hB2⟩
    have HX2 := hide (HX1.out.later hB2)
    have HB2 := hide (HB1.out.trans (hB2.mono HB1.out.size))
    clear hB2 HX1 HB1 c0 c1 c2 c3 c4 c5 c6 c7 c8 z1
    go_wp2_with fail
    refine (hsp.out _).mono ?_
    rintro e w3 ⟨rfl, hB3⟩
    have HX3 := hide (HX2.out.later hB3)
    have HB3 := hide (HB2.out.trans (hB3.mono HB2.out.size))
    clear hB3 HX2 HB2
    obtain ⟨z1, c0, c1, c2, c3, c4, c5, c6, c7, c8⟩ := HX3.out
    go_wp2_with fail
    refine (hto.out _).mono ?_
    rintro e w4 ⟨rfl, hB4⟩
    have HB4 := hide (HB3.out.trans (hB4.mono HB3.out.size))
    clear hB4 HX3 HB3 c0 c1 c2 c3 c4 c5 c6 c7 c8 z1
    go_wp2_with fail
    refine (him.out _).mono ?_
    rintro e w5 ⟨rfl, hB5⟩
    have HB5 := hide (HB4.out.trans (hB5.mono HB4.out.size))
    clear hB5 HB4
    cases b
    all_goals
      go_wp2
      go_ret
      exact ⟨rfl, HB5.out⟩
end Go.Proofs.YtgljfejbjdmldaaGreatDoor
