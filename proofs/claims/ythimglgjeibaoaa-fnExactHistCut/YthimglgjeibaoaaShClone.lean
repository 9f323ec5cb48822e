import Derived.Shelf.Strconv.Clone
import Derived.Shelf.Lay
import Derived.Shelf.LaySoft
import Derived.Test.YthimglgjeibaoaaProg
namespace Go.Proofs
open Go.Shelf
shelf_try shelf_lay LaysM.n316 Nm 316 at Try as Try.laysM316
shelf_try theorem Try.stringslite_Clone (s : ByteArray) (w : World) (hlim : s.size ≤ 281474976710656) :
    Calls Try.prog 57 #[.string s] w fun e w' => e = .returned (.string s) ∧ RowKit.Below w.heap.size w w' := Any.stringslite_Clone Try.laysM316 s w hlim
shelf_tried
end Go.Proofs
