/- A copy of a text. -/
import Derived.Test.YthkklmfjdjiafaaLeafB
import Derived.Test.YthkklmfjdjiafaaShClone
namespace Go.Proofs.Ythkklmfjdjiafaa
open Go.RowKit
set_option linter.unusedVariables false

set_option maxHeartbeats 400000 in
theorem clone_any (s : ByteArray) (hs : s.size ≤ 281474976710656) (w : World) :
    Calls Try.prog 41 #[.string s] w fun e w' => e = .returned (.string s) ∧ Below w.heap.size w w' := by
  go_enter Try.func41, Try.ntmps41
  go_wp2_with (go_at_call 53; refine (Try.stringslite_Clone s _ hs).mono ?_; rintro e w1 ⟨rfl, hB⟩)
  go_ret
  exact ⟨rfl, hB⟩
end Go.Proofs.Ythkklmfjdjiafaa
