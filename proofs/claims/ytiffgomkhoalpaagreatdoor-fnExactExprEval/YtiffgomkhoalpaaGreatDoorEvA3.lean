/- errors.As at the program's own error: it is one. -/
import Derived.Test.YtiffgomkhoalpaaGreatDoorEvA2
namespace Go.Proofs.YtiffgomkhoalpaaGreatDoor
open Go.RowKit Go.Extern.Stop Go.Stop Go.Extern
set_option linter.unusedVariables false
set_option linter.unusedSimpArgs false
/-- package errors' own variable, as it is laid -/
def ErrT (w : World) : Prop := w.cell? ⟨0, 0, none⟩ = some (rtV 89)
theorem ErrT.later {w w1 : World} (h : ErrT w) (hB : Below w.heap.size w w1) : ErrT w1 := (hB.cell (p := ⟨0, 0, none⟩) (World.block_lt_of_cell? w _ h)).trans h
abbrev asW (w : World) (p : Nat) (s : ByteArray) : World := (((w.alloc (.cells #[.pointer (some ⟨p, 0, none⟩)] 97)).alloc (.cells #[hdl 97, .pointer (some ⟨w.heap.size, 0, none⟩), .int .u64 150] 129)).alloc (.cells #[hdl 97, .pointer (some ⟨w.heap.size, 0, none⟩), .int .u64 150] 129)).alloc (.cells #[.string s] 95)
set_option maxHeartbeats 4000000 in
theorem as_hit (s : ByteArray) (p : Nat) (old : Value) (w : World) (hg : ErrT w) (ht0 : w.cell? ⟨p, 0, none⟩ = some old) (hf0 : w.frozen? ⟨p, 0, none⟩ = false) :
    Calls Tryz.prog 59 #[errV s, .iface 97 (.pointer (some ⟨p, 0, none⟩))] w fun ev w' => ev = .returned (.bool true) ∧ w' = (asW w p s).setCell ⟨p, 0, none⟩ (.string s) := by
  have h6 := @run_callFunc_extern Tryz.prog 84 _ (fun args => ReflectliteValue.unpack (args.getD 0 (.tuple #[]))) Tryz.func84 (by kernel_rfl) (by kernel_rfl) (by kernel_rfl) (by kernel_rfl)
  have h7 := @run_callFunc_extern Tryz.prog 85 _ (ReflectliteValue.methodAny (ReflectliteValue.valueError "reflectlite.Value.Type" 0) (fun t _ _ _ => ReflectliteType.toType t)) Tryz.func85 (by kernel_rfl) (by kernel_rfl) (by kernel_rfl) (by kernel_rfl)
  have h8 := @run_callFunc_extern Tryz.prog 86 _ (ReflectliteValue.method (ReflectliteValue.valueError "reflectlite.Value.IsNil" 0) ReflectliteValue.isNil) Tryz.func86 (by kernel_rfl) (by kernel_rfl) (by kernel_rfl) (by kernel_rfl)
  have h27 := @run_callFunc_extern Tryz.prog 147 _ (ReflectliteType.abiMethod fun t => do pure (.int .u8 (← Rtype.kind t))) Tryz.func147 (by kernel_rfl) (by kernel_rfl) (by kernel_rfl) (by kernel_rfl)
  have h37 := @run_callFunc_extern Tryz.prog 165 _ (ReflectliteType.method ReflectliteType.elem) Tryz.func165 (by kernel_rfl) (by kernel_rfl) (by kernel_rfl) (by kernel_rfl)
  have h38 := @run_callFunc_extern Tryz.prog 166 _ (ReflectliteType.relation "Implements" ReflectliteType.implements_) Tryz.func166 (by kernel_rfl) (by kernel_rfl) (by kernel_rfl) (by kernel_rfl)
  have h10 := @run_callFunc_extern Tryz.prog 116 _ ReflectliteType.typeOf Tryz.func116 (by kernel_rfl) (by kernel_rfl) (by kernel_rfl) (by kernel_rfl)
  have h35 := @run_callFunc_extern Tryz.prog 163 _ (ReflectliteType.relation "AssignableTo" ReflectliteType.assignableTo) Tryz.func163 (by kernel_rfl) (by kernel_rfl) (by kernel_rfl) (by kernel_rfl)
  have h11 := @run_callFunc_extern Tryz.prog 117 _ (ReflectliteValue.method (ReflectliteValue.valueError "reflectlite.Value.Elem" 0) ReflectliteValue.elem) Tryz.func117 (by kernel_rfl) (by kernel_rfl) (by kernel_rfl) (by kernel_rfl)
  have h12 := @run_callFunc_extern Tryz.prog 118 _ ReflectliteValue.set Tryz.func118 (by kernel_rfl) (by kernel_rfl) (by kernel_rfl) (by kernel_rfl)
  have tO := aTypeOfE
  have mA := aAssign
  have a25 := aAssignE
  have v25 := aValE
  have f6 := aValP
  have f7 := aTypeP
  have mK := aKind
  have mE := aElem
  have mI := aImpl
  have k27 := aKindP
  have k25 := aKindE
  have e27 := aElemP
  have i25 := aImplE
  have n8 := aNilP ⟨w.heap.size, 0, none⟩ ⟨p, 0, none⟩ ((w.alloc (.cells #[.pointer (some ⟨p, 0, none⟩)] 97)).alloc (.cells #[hdl 97, .pointer (some ⟨w.heap.size, 0, none⟩), .int .u64 150] 129)) (by simp)
  have hlt : 0 < w.heap.size := World.block_lt_of_cell? w _ hg
  have hg2 : ((w.alloc (.cells #[.pointer (some ⟨p, 0, none⟩)] 97)).alloc (.cells #[hdl 97, .pointer (some ⟨w.heap.size, 0, none⟩), .int .u64 150] 129)).cell? ⟨0, 0, none⟩ = some (rtV 89) := by
    rw [World.cell?_alloc_lt _ _ ⟨0, 0, none⟩ (by simp), World.cell?_alloc_lt _ _ ⟨0, 0, none⟩ hlt]; exact hg
  have htl : p < w.heap.size := World.block_lt_of_cell? w _ ht0
  have el := aElemV ⟨w.heap.size, 0, none⟩ ⟨p, 0, none⟩ (((w.alloc (.cells #[.pointer (some ⟨p, 0, none⟩)] 97)).alloc (.cells #[hdl 97, .pointer (some ⟨w.heap.size, 0, none⟩), .int .u64 150] 129)).alloc (.cells #[hdl 97, .pointer (some ⟨w.heap.size, 0, none⟩), .int .u64 150] 129)) (by rw [World.cell?_alloc_lt _ _ ⟨w.heap.size, 0, none⟩ (by simp; omega)]; simp)
  have st := aSet p (w.heap.size + 1 + 1 + 1) s old (asW w p s)
    (by rw [World.cell?_alloc_at _ _ _ _ (by simp)]; rfl)
    (by rw [World.cell?_alloc_lt _ _ ⟨p, 0, none⟩ (by simp; omega), World.cell?_alloc_lt _ _ ⟨p, 0, none⟩ (by simp; omega), World.cell?_alloc_lt _ _ ⟨p, 0, none⟩ (by simp; omega), World.cell?_alloc_lt _ _ ⟨p, 0, none⟩ htl]; exact ht0)
    (by rw [World.frozen?_alloc_old _ _ ⟨p, 0, none⟩ (by simp; omega), World.frozen?_alloc_old _ _ ⟨p, 0, none⟩ (by simp; omega), World.frozen?_alloc_old _ _ ⟨p, 0, none⟩ (by simp; omega), World.frozen?_alloc_old _ _ ⟨p, 0, none⟩ (Nat.ne_of_lt htl)]; exact hf0)
  clear hg hlt htl ht0 hf0
  go_enter Tryz.func59, Tryz.ntmps59
  go_wp2
  refine wp_loop_rounds 1 ?_
  rw [rounds_succ]
  go_wp2
  go_ret
  exact ⟨rfl, rfl⟩
theorem as_hit_below (s : ByteArray) (p n : Nat) (old : Value) (w : World) (hg : ErrT w) (ht0 : w.cell? ⟨p, 0, none⟩ = some old) (hf0 : w.frozen? ⟨p, 0, none⟩ = false) (hn : n ≤ p) (hnw : n ≤ w.heap.size) :
    Calls Tryz.prog 59 #[errV s, .iface 97 (.pointer (some ⟨p, 0, none⟩))] w fun ev w' => ev = .returned (.bool true) ∧ Below n w w' := by
  refine (as_hit s p old w hg ht0 hf0).mono ?_
  rintro e w' ⟨rfl, rfl⟩
  exact ⟨rfl, (((((Below.refl _ _).alloc hnw _).alloc (by simp; omega) _).alloc (by simp; omega) _).alloc (by simp; omega) _).setCell (p := ⟨p, 0, none⟩) hn _⟩
end Go.Proofs.YtiffgomkhoalpaaGreatDoor
