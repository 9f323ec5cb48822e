/- What all texts of this claim begin with. -/
import Derived.Test.YthkklmfjdjiafaaRows
import Derived.WalkKit
import Derived.WalkSpells
import Derived.WalkLawsBesides
import Derived.Test.YthkklmfjdjiafaaPl
namespace Go.Proofs.Ythkklmfjdjiafaa
open Go.RowKit

end Go.Proofs.Ythkklmfjdjiafaa
