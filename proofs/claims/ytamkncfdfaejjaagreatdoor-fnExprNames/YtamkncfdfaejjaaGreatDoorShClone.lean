import Derived.Shelf.Strconv.Clone
import Derived.Shelf.Lay
import Derived.Shelf.LaySoft
import Derived.Test.YtamkncfdfaejjaaGreatDoorProg
namespace Go.Proofs
open Go.Shelf
shelf_try shelf_lay LaysM.n316 Nm 316 at Tryz as Tryz.laysM316
shelf_try theorem Tryz.stringslite_Clone (s : ByteArray) (w : World) (hlim : s.size ≤ 281474976710656) :
    Calls Tryz.prog 88 #[.string s] w fun e w' => e = .returned (.string s) ∧ RowKit.Below w.heap.size w w' := Any.stringslite_Clone Tryz.laysM316 s w hlim
shelf_tried
end Go.Proofs
