/- A copy of a text. -/
import Derived.Test.YtckdpdlkjgjadaaLeaf
import Derived.Test.YtckdpdlkjgjadaaShClone
namespace Go.Proofs.Ytckdpdlkjgjadaa
open Go.RowKit
set_option linter.unusedVariables false

set_option maxHeartbeats 400000 in
theorem clone_any (s : ByteArray) (hs : s.size ≤ 281474976710656) (w : World) :
    Calls Try.prog 56 #[.string s] w fun e w' => e = .returned (.string s) ∧ Below w.heap.size w w' := by
  go_enter Try.func56, Try.ntmps56
  go_wp2_with (go_at_call 75; refine (Try.stringslite_Clone s _ hs).mono ?_; rintro e w1 ⟨rfl, hB⟩)
  go_ret
  exact ⟨rfl, hB⟩
end Go.Proofs.Ytckdpdlkjgjadaa
