/- A value, as the model has it. -/
import Derived.Test.YthkklmfjdjiafaaLeafB
namespace Go.Proofs.Ythkklmfjdjiafaa
open Go.RowKit
set_option linter.unusedVariables false

abbrev vAgg (k n : Int) (t : ByteArray) : Value := .agg #[.int .i64 k, .int .i64 n, .string t]

end Go.Proofs.Ythkklmfjdjiafaa
