/- One byte turned into a text. -/
import Derived.Test.YtbckbfjnifafaaaGreatDoorOwn
namespace Go.Proofs.YtbckbfjnifafaaaGreatDoor
open Go.RowKit
set_option linter.unusedVariables false

theorem conv1 (w : World) (c : Int) (h0 : 0 ≤ c) (h1 : c < 256) :
    (convert 78 9 (.slice (some ⟨w.heap.size, 0, none⟩) 1 1)).run Tryz.prog (w.alloc (.cells #[.int .u8 c] 5)) = .ok (.string (Pl.bs [c.toNat.toUInt8])) (w.alloc (.cells #[.int .u8 c] 5)) := by
  have hc : ((c.toNat.toUInt8.toNat : Nat) : Int) = c := by
    have : c.toNat.toUInt8.toNat = c.toNat % 256 := by simp
    omega
  refine run_convert_bytes_back _ 78 9 5 ⟨w.heap.size, 0, none⟩ 1 [c.toNat.toUInt8] Tryz.underlying78 Tryz.underlying5 Tryz.underlying9 ?_
  intro j hj
  have : j = 0 := by simpa using hj
  subst this
  simp only [List.getElem_cons_zero, hc]
  exact cell_one_new w (.int .u8 c) 5 0 _ rfl

theorem bs_append (a b : List UInt8) : Pl.bs a ++ Pl.bs b = Pl.bs (a ++ b) := Pl.eq_of_data (by simp [Pl.bs])
end Go.Proofs.YtbckbfjnifafaaaGreatDoor
