/- errors.As at the program's own error: the hit. -/
import Derived.Test.YtiffgomkhoalpaaGreatDoorEvA1
namespace Go.Proofs.YtiffgomkhoalpaaGreatDoor
open Go.RowKit Go.Extern.Stop Go.Stop Go.Extern
set_option linter.unusedVariables false
set_option linter.unusedSimpArgs false
theorem aLoadE (q : Nat) (s : ByteArray) (W : World) (h : W.cell? ⟨q, 0, none⟩ = some (.string s)) : (loadVar 95 ⟨q, 0, none⟩).run Tryz.prog W = .ok (.agg #[.string s]) W := by
  have hA : (isAgg 95).run Tryz.prog W = .ok true W := by kernel_rfl
  have hS : (sizeOf 95).run Tryz.prog W = .ok 1 W := by kernel_rfl
  have hL : (load ⟨q, 0, none⟩).run Tryz.prog W = .ok (.string s) W := by simp [h]
  simp only [loadVar, Sem.run_bind, hA, Result.andThen, hS]
  simp [loadCells, loadCellsFrom, Addr.add, h, Result.andThen]
theorem aSet (p q : Nat) (s : ByteArray) (old : Value) (W : World) (hb : W.cell? ⟨q, 0, none⟩ = some (.string s)) (ht : W.cell? ⟨p, 0, none⟩ = some old) (hf : W.frozen? ⟨p, 0, none⟩ = false) :
    (ReflectliteValue.set #[.agg #[hdl 95, .pointer (some ⟨p, 0, none⟩), .int .u64 409], .agg #[hdl 95, .pointer (some ⟨q, 0, none⟩), .int .u64 153]]).run Tryz.prog W
      = .ok (.tuple #[]) (W.setCell ⟨p, 0, none⟩ (.string s)) := by
  have hS : (sizeOf 95).run Tryz.prog W = .ok 1 W := by kernel_rfl
  rw [rls]
  simp only [Sem.run_bind, aPartsEa, aPartsE, Result.andThen]
  simp [ReflectliteValue.flagAddr, aLoadE q s W hb, Result.andThen, aDirect, storeVar, Value.cells, storeCells, Addr.add, hS]
  rw [run_store Tryz.prog W ⟨p, 0, none⟩ _ _ (by rfl)]
  simp [ht, hf]
end Go.Proofs.YtiffgomkhoalpaaGreatDoor
