/- Two lists of texts, wherever they lie, held against each other, as the exact laws do it. -/
import Derived.Test.YtckdpdlkjgjadaaTxAt
import Derived.Test.YtckdpdlkjgjadaaLists
namespace Go.Proofs.Ytckdpdlkjgjadaa
open Go.RowKit
set_option linter.unusedVariables false
set_option maxHeartbeats 800000 in
theorem eqStringS_texts (L : List (List UInt8)) (va vb : Value) (hL : L.length ≤ 4194304) (w : World) (ha : TextsAt w va L) (hb : TextsAt w vb L) :
    Calls Try.prog 14 #[va, vb] w fun e w' => e = .returned (.bool true) ∧ Below w.heap.size w w' := by
  obtain ⟨aa, ca, rfl, _, _, hca, _⟩ := ha
  obtain ⟨ab, cb, rfl, _, _, hcb, _⟩ := hb
  by_cases hn : 0 < L.length
  · obtain ⟨ga, oa, rfl, hga, hca⟩ := hca hn
    obtain ⟨gb, ob, rfl, hgb, hcb⟩ := hcb hn
    have HCA := hide hca
    have HCB := hide hcb
    clear hca hcb
    generalize hN : L.length = N at *
    clear hN
    go_enter Try.func14, Try.ntmps14
    go_wp2
    go_loopw [5] (fun i wr => ∃ k : Nat, k ≤ N ∧ i = .int .i64 k ∧ Below w.heap.size w wr) (fun i _ => N - (intOf i).toNat)
    case atStart => exact ⟨0, by omega, rfl, Below.refl _ _⟩
    case round =>
      obtain ⟨k, hk, rfl, hB⟩ := hrel
      by_cases hlt : k < N
      · have c1 : wr.cell? ⟨ga, oa + k, none⟩ = some (sv (L[k]?.getD [])) := by
          rw [hB.cell (p := ⟨ga, oa + k, none⟩) hga, HCA.out k hlt]
        have c2 : wr.cell? ⟨gb, ob + k, none⟩ = some (sv (L[k]?.getD [])) := by
          rw [hB.cell (p := ⟨gb, ob + k, none⟩) hgb, HCB.out k hlt]
        generalize L[k]?.getD [] = X at c1 c2
        have hki : (k : Int) < (N : Int) := by omega
        go_wp2
        go_quiet (fail)
        go_wp2
        go_roundw
        case rel => exact ⟨k + 1, by omega, by go_num, below_drewN hB _⟩
        case measure => simp [intOf]; omega
      · go_wp2
        go_ret
        exact ⟨rfl, hB⟩
  · have h0 : L.length = 0 := by omega
    rw [h0]
    clear hca hcb
    go_enter Try.func14, Try.ntmps14
    go_wp2
    go_loop [5] (fun i => i = .int .i64 0) (fun i => 0)
    case atStart => rfl
    case round =>
      subst hrel
      go_wp2
      go_ret
      exact ⟨rfl, Below.refl _ _⟩
end Go.Proofs.Ytckdpdlkjgjadaa
