/- Two copies of rows of names with values held against each other. -/
import Derived.Test.YtiffgomkhoalpaaGreatDoorEvL3
namespace Go.Proofs.YtiffgomkhoalpaaGreatDoor
open Go.RowKit
set_option linter.unusedVariables false
set_option linter.unusedSimpArgs false
set_option maxHeartbeats 1600000 in
theorem eqPairS_any (l : List Pl.Pr) (hN : l.length ≤ 1048576) (va vb : Value) (w : World) (ha : PrRow w l va) (hb : PrRow w l vb) :
    Calls Tryz.prog 17 #[va, vb] w fun x w' => x = .returned (.bool true) ∧ Below w.heap.size w w' := by
  obtain ⟨aa, ca, rfl, hca, hma, hxa⟩ := ha
  obtain ⟨ab, cb, rfl, hcb, hmb, hxb⟩ := hb
  unfold maxLen at hma hmb
  have HXA := hide hxa
  have HXB := hide hxb
  clear hxa hxb
  go_enter Tryz.func17, Tryz.ntmps17
  go_wp2_with fail
  go_loopw [5] (fun iv wr => ∃ i : Nat, i ≤ l.length ∧ iv = .int .i64 i ∧ Hid (Below w.heap.size w wr)) (fun iv _ => l.length - (intOf iv).toNat)
  case atStart => exact ⟨0, by omega, rfl, hide (Below.refl _ _)⟩
  case round =>
    obtain ⟨i, hi, rfl, hB⟩ := hrel
    by_cases hlt : i < l.length
    · obtain ⟨ga, oa, rfl, hga, hsa⟩ := HXA.out (by omega)
      obtain ⟨gb, ob, rfl, hgb, hsb⟩ := HXB.out (by omega)
      obtain ⟨e, he⟩ : ∃ e, l[i]? = some e := ⟨_, List.getElem?_eq_getElem hlt⟩
      obtain ⟨d0, d1, d2, d3⟩ := (hsa i e he).later hB.out hga
      obtain ⟨f0, f1, f2, f3⟩ := (hsb i e he).later hB.out hgb
      have hga' : ga < wr.heap.size := by have := hB.out.size; omega
      have hgb' : gb < wr.heap.size := by have := hB.out.size; omega
      have hq := hide (eqPair_any e)
      clear hsa hsb he
      have hii : (i : Int) < (l.length : Int) := by omega
      go_wp2_with fail
      go_region_with (go_at_call 37; refine (hq.out _).mono ?_; rintro x w3 ⟨rfl, hB3⟩)
      all_goals
        clear d0 d1 d2 d3 f0 f1 f2 f3 hq
        go_wp2
        go_roundw
        case rel => exact ⟨i + 1, by omega, by go_num, hide (hB.out.drew.trans (hB3.mono hB.out.size))⟩
        case measure => simp [intOf]; omega
    · go_wp2
      go_ret
      exact ⟨rfl, hB.out⟩
end Go.Proofs.YtiffgomkhoalpaaGreatDoor
