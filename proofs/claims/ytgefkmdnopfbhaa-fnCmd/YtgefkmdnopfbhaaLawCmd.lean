/- The law on what is asked for, walked. -/
import Derived.Test.YtgefkmdnopfbhaaCmd1
namespace Go.Proofs.Ytgefkmdnopfbhaa
open Go.RowKit
set_option linter.unusedVariables false

/-- the five cells of a box, in a later world -/
def BoxFive (b : Nat) (x0 x1 x2 x3 x4 : Value) (w : World) : Prop :=
  b < w.heap.size ∧ w.cell? ⟨b, 0, none⟩ = some x0 ∧ w.cell? ⟨b, 1, none⟩ = some x1 ∧ w.cell? ⟨b, 2, none⟩ = some x2 ∧ w.cell? ⟨b, 3, none⟩ = some x3 ∧ w.cell? ⟨b, 4, none⟩ = some x4
theorem BoxFive.mk {w w1 : World} {x0 x1 x2 x3 x4 : Value} {T : TypeId} (hb : Below (w.alloc (.cells #[x0, x1, x2, x3, x4] T)).heap.size (w.alloc (.cells #[x0, x1, x2, x3, x4] T)) w1) : BoxFive w.heap.size x0 x1 x2 x3 x4 w1 :=
  ⟨by have := hb.size; simp at this; omega, box5 hb (by simp)⟩
theorem BoxFive.later {b : Nat} {x0 x1 x2 x3 x4 : Value} {w w1 : World} (h : BoxFive b x0 x1 x2 x3 x4 w) (hB : Below w.heap.size w w1) : BoxFive b x0 x1 x2 x3 x4 w1 := by
  obtain ⟨hb, h0, h1, h2, h3, h4⟩ := h
  have C : ∀ o, w1.cell? ⟨b, o, none⟩ = w.cell? ⟨b, o, none⟩ := fun o => hB.cell (p := ⟨b, o, none⟩) hb
  exact ⟨by have := hB.size; omega, (C _).trans h0, (C _).trans h1, (C _).trans h2, (C _).trans h3, (C _).trans h4⟩

set_option maxHeartbeats 1600000 in
theorem lawCmdOk_any (k : Int) (nm : ByteArray) (vk vn : Int) (vt : ByteArray) (hn : nm.size ≤ maxLen) (ht : vt.size ≤ maxLen) (w : World) :
    Calls Try.prog 3 #[cmdV k nm vk vn vt] w fun e w' => e = .returned (.bool true) ∧ Below w.heap.size w w' := by
  have hs := hide (szCmd_at k nm vk vn vt hn ht 1048576 (by omega) (by omega))
  have hto := hide (toCmd_any k nm vk vn vt)
  have hsp := hide (specCmdOk_any k nm vk vn vt hn ht)
  have him := hide (implCmdOk_any k nm vk vn vt hn ht)
  generalize Pl.cmdB k nm vk vn vt = b at hsp him
  go_enter Try.func3, Try.ntmps3
  go_wp2_with fail
  refine (hs.out _).mono ?_
  rintro e w1 ⟨⟨r, rfl, hr0, hr1⟩, hB1⟩
  have HX1 := hide (BoxFive.mk hB1)
  have HB1 := hide (below_box1 hB1)
  clear hB1 hs
  by_cases h0 : r < 0
  · go_wp2
    go_ret
    exact ⟨rfl, HB1.out⟩
  · obtain ⟨z1, c0, c1, c2, c3, c4⟩ := HX1.out
    go_wp2_with fail
    refine (hto.out _).mono ?_
    rintro e w2 ⟨rfl, hB2⟩
    have HX2 := hide (HX1.out.later hB2)
    have HB2 := hide (HB1.out.trans (hB2.mono HB1.out.size))
    clear hB2 HX1 HB1 c0 c1 c2 c3 c4 z1
    go_wp2_with fail
    refine (hsp.out _).mono ?_
    rintro e w3 ⟨rfl, hB3⟩
    have HX3 := hide (HX2.out.later hB3)
    have HB3 := hide (HB2.out.trans (hB3.mono HB2.out.size))
    clear hB3 HX2 HB2
    obtain ⟨z1, c0, c1, c2, c3, c4⟩ := HX3.out
    go_wp2_with fail
    refine (hto.out _).mono ?_
    rintro e w4 ⟨rfl, hB4⟩
    have HB4 := hide (HB3.out.trans (hB4.mono HB3.out.size))
    clear hB4 HX3 HB3 c0 c1 c2 c3 c4 z1
    go_wp2_with fail
    refine (him.out _).mono ?_
    rintro e w5 ⟨rfl, hB5⟩
    have HB5 := hide (HB4.out.trans (hB5.mono HB4.out.size))
    clear hB5 HB4
    cases b
    all_goals
      go_wp2
      go_ret
      exact ⟨rfl, HB5.out⟩
end Go.Proofs.Ytgefkmdnopfbhaa
