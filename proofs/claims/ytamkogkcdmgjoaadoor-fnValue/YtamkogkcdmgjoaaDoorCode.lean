/- A code that came in, read as bytes. -/
import Derived.Test.YtamkogkcdmgjoaaDoorDraw
import Derived.ProofKit
import Derived.OpenShut
namespace Go.Proofs.YtamkogkcdmgjoaaDoor
open Go.ChangeShapes Go.WideShapes Go.ChangeAt Go.RowKit
theorem code_nil (W : World) : CodeOk W.heap.size W (.slice none 0 0) 0 := ⟨none, 0, rfl, Nat.le_refl _, by unfold maxLen; omega, fun h => by omega⟩
theorem code_row {W : World} {x : Addr} {len cap : Nat} {zs : List Int} (hl : len ≤ cap) (hm : cap ≤ maxLen) (hz : zs.length = cap)
    (hcell : ∀ i, i < zs.length → W.cell? (x.add i) = some (.int .u8 (zs.getD i 0))) (hwz : ∀ n ∈ zs, (Lit.int .u8 n).wf = true) : CodeOk W.heap.size W (.slice (some x) len cap) len := by
  refine ⟨some x, cap, rfl, hl, hm, fun h0 => ?_⟩
  obtain ⟨b, off, rfl, hc⟩ := ints_at hcell (by omega)
  have hlt : b < W.heap.size := World.block_lt_of_cell? W ⟨b, off, none⟩ (by have := hc 0 (by omega); simpa using this)
  refine ⟨b, off, rfl, hlt, fun i hi => ⟨_, hc i (by omega), ?_⟩⟩
  have hmem : zs.getD i 0 ∈ zs := by
    have : i < zs.length := by omega
    rw [List.getD_eq_getElem?_getD, List.getElem?_eq_getElem this, Option.getD_some]; exact List.getElem_mem this
  have := hwz _ hmem
  simp [Lit.wf, IntKind.min, IntKind.max, IntKind.signed, IntKind.bits] at this ⊢
  exact this
end Go.Proofs.YtamkogkcdmgjoaaDoor
