/- Marks, and lists of texts that are held against each other. -/
import Derived.Test.YthkklmfjdjiafaaPlD
import Derived.Test.YthkklmfjdjiafaaCv1
namespace Go.Proofs.Ythkklmfjdjiafaa
open Go.RowKit
set_option linter.unusedVariables false

set_option maxHeartbeats 800000 in
theorem markText_any (k : Nat) (h1 : 1 ≤ k) (h2 : k ≤ 1000000000) (w : World) :
    Calls Try.prog 34 #[.int .i64 k] w fun e w' => e = .returned (.string (Pl.bs (Pl.mark k))) ∧ Below w.heap.size w w' := by
  go_enter Try.func34, Try.ntmps34
  go_wp2
  go_loopw [0, 3] (fun kv ov wr => ∃ (j : Nat) (out : List UInt8), j ≤ k ∧ kv = .int .i64 j ∧ ov = .string (Pl.bs out) ∧ Hid (Pl.dec k = Pl.dec j ++ out) ∧ out.length + j ≤ 2 * k ∧ Below w.heap.size w wr) (fun kv _ _ => (intOf kv).toNat)
  case atStart => exact ⟨k, [], Nat.le_refl _, rfl, rfl, by simp [Hid], by simp; omega, Below.refl _ _⟩
  case round =>
    obtain ⟨j, out, hj, rfl, rfl, HD, hol, hB⟩ := hrel
    have hos : (Pl.bs out).size = out.length := rfl
    by_cases hj0 : 0 < j
    · have hcv := conv1 wr (48 + (j : Int) % 10) (by omega) (by omega)
      generalize hd : (48 + (j : Int) % 10).toNat.toUInt8 = d at hcv
      have HDD := hide hd
      clear hd
      have hds : (Pl.bs [d]).size = 1 := rfl
      go_wp2
      go_roundw
      case rel =>
        refine ⟨j / 10, d :: out, by omega, by go_num, by rw [bs_append]; rfl, ?_, by simp; omega, hB.alloc hB.size _⟩
        show _ = _
        rw [HD.out, Pl.dec_step j (by omega), ← HDD.out, show (48 + (j : Int) % 10).toNat = 48 + j % 10 from by omega]
        simp
      case measure => simp [intOf]; omega
    · go_wp2
      go_ret
      refine ⟨?_, hB⟩
      have hj' : j = 0 := by omega
      have : Pl.mark k = 109 :: out := by unfold Pl.mark; rw [HD.out, hj', Pl.dec_zero]; rfl
      rw [this]
      show Ending.returned (.string (Pl.bs [109] ++ Pl.bs out)) = _
      rw [bs_append]; rfl
end Go.Proofs.Ythkklmfjdjiafaa
