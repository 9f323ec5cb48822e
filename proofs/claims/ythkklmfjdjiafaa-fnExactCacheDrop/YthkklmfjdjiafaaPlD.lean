/- Plain facts on decimals. -/
import Derived.Test.YthkklmfjdjiafaaPlT
namespace Go.Proofs.Ythkklmfjdjiafaa
open Go.RowKit
namespace Pl
/-- the figures of a number above 0; n: at least as many rounds as it has figures -/
def decF : Nat → Nat → List UInt8
  | 0, _ => []
  | f + 1, n => if n = 0 then [] else decF f (n / 10) ++ [(48 + n % 10).toUInt8]
theorem decF_fuel : ∀ (f g n : Nat), n ≤ f → n ≤ g → decF f n = decF g n
  | 0, g, n, h, _ => by
    have : n = 0 := by omega
    subst this
    cases g <;> simp [decF]
  | f + 1, 0, n, _, h => by
    have : n = 0 := by omega
    subst this
    simp [decF]
  | f + 1, g + 1, n, h, k => by
    by_cases hn : n = 0
    · simp [decF, hn]
    · simp only [decF, if_neg hn]
      rw [decF_fuel f g (n / 10) (by omega) (by omega)]
def dec (n : Nat) : List UInt8 := decF n n
theorem dec_zero : dec 0 = [] := rfl
theorem dec_step (n : Nat) (h : n ≠ 0) : dec n = dec (n / 10) ++ [(48 + n % 10).toUInt8] := by
  unfold dec
  rw [decF_fuel n (n + 1) n (Nat.le_refl _) (by omega)]
  simp only [decF, if_neg h]
  rw [decF_fuel n (n / 10) (n / 10) (by omega) (Nat.le_refl _)]
theorem dec_len (n : Nat) : (dec n).length ≤ n := by
  have : ∀ f n, (decF f n).length ≤ f := by
    intro f
    induction f with
    | zero => simp [decF]
    | succ f ih =>
      intro n
      simp only [decF]
      split
      · simp
      · have := ih (n / 10)
        simp; omega
  exact this n n
/-- a mark -/
def mark (k : Nat) : List UInt8 := 109 :: dec k
end Pl
end Go.Proofs.Ythkklmfjdjiafaa
