/- Lists of texts, wherever they lie, held against each other. -/
import Derived.Test.YteadmjhmahjmdaaWords2
namespace Go.Proofs.Yteadmjhmahjmdaa
open Go.RowKit
set_option linter.unusedVariables false

/-- a slice that holds these texts -/
def TextsAt (w : World) (v : Value) (L : List (List UInt8)) : Prop :=
  ∃ ad cap, v = .slice ad L.length cap ∧ L.length ≤ cap ∧ cap ≤ maxLen ∧ (0 < L.length → ∃ g off, ad = some ⟨g, off, none⟩ ∧ g < w.heap.size ∧ ∀ i, i < L.length → w.cell? ⟨g, off + i, none⟩ = some (sv (L[i]?.getD [])))
theorem TextsAt.later {w w1 : World} {v : Value} {L : List (List UInt8)} (h : TextsAt w v L) (hb : Below w.heap.size w w1) : TextsAt w1 v L := by
  obtain ⟨ad, cap, hv, h1, h2, hc⟩ := h
  refine ⟨ad, cap, hv, h1, h2, fun hl => ?_⟩
  obtain ⟨g, off, ha, hg, hc⟩ := hc hl
  exact ⟨g, off, ha, by have := hb.size; omega, fun i hi => (hb.cell (p := ⟨g, off + i, none⟩) hg).trans (hc i hi)⟩
theorem texts_of_row {w : World} {base : Nat} {v : Value} {L : List (List UInt8)} (h : w.ownsRow base 9 1 v L.length (L.map sv)) : TextsAt w v L := by
  obtain ⟨hl, h⟩ := h
  rcases h with ⟨rfl, h0⟩ | ⟨g, cap, cur, rfl, hb, hg, hnc, hm, hs, ht⟩
  · exact ⟨none, 0, by rw [h0], by omega, by unfold maxLen; omega, fun h => by omega⟩
  · refine ⟨_, cap, rfl, hnc, hm, fun _ => ⟨g, 0, rfl, (Array.getElem?_eq_some_iff.1 hg).1, fun i hi => ?_⟩⟩
    have h1 : (L.map sv)[i]? = cur[i]? := by
      rw [← ht, List.getElem?_take, if_pos (by omega)]; simp
    have h2 : i < cur.size := by omega
    have h3 : cur[i]? = some (sv (L[i]?.getD [])) := by
      rw [← h1]; simp [List.getElem?_map, List.getElem?_eq_getElem hi]
    simp [World.cell?, hg, h3]

set_option maxHeartbeats 800000 in
theorem bkTexts_same (L : List (List UInt8)) (va vb : Value) (hL : L.length ≤ 4194304) (w : World) (ha : TextsAt w va L) (hb : TextsAt w vb L) :
    Calls Try.prog 9 #[va, vb] w fun e w' => e = .returned (.bool true) ∧ Below w.heap.size w w' := by
  obtain ⟨aa, ca, rfl, _, _, hca⟩ := ha
  obtain ⟨ab, cb, rfl, _, _, hcb⟩ := hb
  by_cases hn : 0 < L.length
  · obtain ⟨ga, oa, rfl, hga, hca⟩ := hca hn
    obtain ⟨gb, ob, rfl, hgb, hcb⟩ := hcb hn
    have HCA := hide hca
    have HCB := hide hcb
    clear hca hcb
    generalize hN : L.length = N at *
    clear hN
    go_enter Try.func9, Try.ntmps9
    go_wp2
    go_loopw [5] (fun i wr => ∃ k : Nat, k ≤ N ∧ i = .int .i64 k ∧ Below w.heap.size w wr) (fun i _ => N - (intOf i).toNat)
    case atStart => exact ⟨0, by omega, rfl, Below.refl _ _⟩
    case round =>
      obtain ⟨k, hk, rfl, hB⟩ := hrel
      by_cases hlt : k < N
      · have c1 : wr.cell? ⟨ga, oa + k, none⟩ = some (sv (L[k]?.getD [])) := by
          rw [hB.cell (p := ⟨ga, oa + k, none⟩) hga, HCA.out k hlt]
        have c2 : wr.cell? ⟨gb, ob + k, none⟩ = some (sv (L[k]?.getD [])) := by
          rw [hB.cell (p := ⟨gb, ob + k, none⟩) hgb, HCB.out k hlt]
        generalize L[k]?.getD [] = X at c1 c2
        have hki : (k : Int) < (N : Int) := by omega
        go_wp2
        go_quiet (fail)
        go_wp2
        go_roundw
        case rel => exact ⟨k + 1, by omega, by go_num, below_drewN hB _⟩
        case measure => simp [intOf]; omega
      · go_wp2
        go_ret
        exact ⟨rfl, hB⟩
  · have h0 : L.length = 0 := by omega
    rw [h0]
    clear hca hcb
    go_enter Try.func9, Try.ntmps9
    go_wp2
    go_loop [5] (fun i => i = .int .i64 0) (fun i => 0)
    case atStart => rfl
    case round =>
      subst hrel
      go_wp2
      go_ret
      exact ⟨rfl, Below.refl _ _⟩
end Go.Proofs.Yteadmjhmahjmdaa
